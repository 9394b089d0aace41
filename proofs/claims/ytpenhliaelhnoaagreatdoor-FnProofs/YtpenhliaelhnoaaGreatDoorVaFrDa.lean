/-
  What spec.l7Any and spec.DrawPutFrame answer: some frame, right or not, in new memory.
-/
import Derived.Test.YtpenhliaelhnoaaGreatDoorVaFrDd
set_option linter.unusedVariables false
set_option maxRecDepth 100000
namespace Go.Proofs.YtpenhliaelhnoaaGreatDoor.FrDa
open Go.RowKit Mem App Blk Draw Zone Res FrZ FrP FrB FrDr

structure FrIn (w : World) (lo hi : Nat) (S : FrS) (D : FrD) : Prop where
 cn : SOwn w lo hi S.cn D.cn
 sn : SOwn w lo hi S.sn D.sn
 cookie : SOwn w lo hi S.cookie D.cookie
 proof : SOwn w lo hi S.proof D.proof
 body : SOwn w lo hi S.body D.body
 tag : SOwn w lo hi S.tag D.tag
theorem FrIn.rd {w : World} {lo hi : Nat} {S : FrS} {D : FrD} (h : FrIn w lo hi S D) : FrRd w S D := ⟨h.cn.rd, h.sn.rd, h.cookie.rd, h.proof.rd, h.body.rd, h.tag.rd⟩
theorem FrIn.carry {w w' : World} {lo hi a b : Nat} {S : FrS} {D : FrD} (h : FrIn w lo hi S D) (k : Kept a b w w') (d : hi ≤ a ∨ b ≤ lo) : FrIn w' lo hi S D := ⟨h.cn.carry k d, h.sn.carry k d, h.cookie.carry k d, h.proof.carry k d, h.body.carry k d, h.tag.carry k d⟩
theorem FrIn.later {w w' : World} {lo hi : Nat} {S : FrS} {D : FrD} (h : FrIn w lo hi S D) (k : Below w.heap.size w w') : FrIn w' lo hi S D := h.carry (Kept.of_below k hi) (.inl (Nat.le_refl _))
theorem FrIn.mono {w : World} {lo hi lo' hi' : Nat} {S : FrS} {D : FrD} (h : FrIn w lo hi S D) (h1 : lo' ≤ lo) (h2 : hi ≤ hi') : FrIn w lo' hi' S D := ⟨h.cn.mono h1 h2, h.sn.mono h1 h2, h.cookie.mono h1 h2, h.proof.mono h1 h2, h.body.mono h1 h2, h.tag.mono h1 h2⟩
theorem FrIn.of {w : World} {lo hi : Nat} {S : FrS} {D : FrD} (h : FrOwn w lo hi S D) : FrIn w lo hi S D := ⟨h.cn, h.sn, h.cookie, h.proof, h.body, h.tag⟩
def DrewAny (W0 : World) (a : Option Addr) (len cap : Nat) (l : List Int) (p : Nat) (w : World) : Ending → World → Prop := fun e w' => ∃ D S, e = .returned (frV D S) ∧ FrIn w' w.heap.size w'.heap.size S D ∧ Ready W0 a len cap l p w' ∧ But p w w'
theorem ret_any {W0 : World} {a0 : Option Addr} {len cap : Nat} {l : List Int} {p0 : Nat} {fn : Func} {p : Tmp} {a : Act} {w w' : World} {g : Nat} {D : FrD} {S : FrS} (hf : fn.results = #[.cell p 25]) (hp : a.tmps.getD p undef = .pointer (some ⟨g, 0, none⟩))
  (hg : Blk w' g 25 [.int .i64 D.kind, .int .i64 D.id, .slice S.cn.a S.cn.n S.cn.c, .slice S.sn.a S.sn.n S.sn.c, .int .i64 D.tick, .slice S.cookie.a S.cookie.n S.cookie.c, .slice S.proof.a S.proof.n S.proof.c, .int .i64 D.epoch, .int .i64 D.seq, .slice S.body.a S.body.n S.body.c, .slice S.tag.a S.tag.n S.tag.c]) (hd : a.defers = []) (h2 : FrIn w' w.heap.size w'.heap.size S D) (h3 : Ready W0 a0 len cap l p0 w') (h4 : But p0 w w') : bodyPost Tryz.prog fn (DrewAny W0 a0 len cap l p0 w) .ret a w' :=
 bodyPost_ret (v := frV D S) (res1 hf (is_cell hp hg aggFr)) hd ⟨D, S, rfl, h2, h3, h4⟩
theorem NP {W0 w : World} {gr p lo gf : Nat} (h : w.heap.size = gr ∧ p < gr ∧ W0.heap.size ≤ gr ∧ gr < lo ∧ lo ≤ gf) : gr ≠ p := by omega
theorem NW {W0 w : World} {gr p lo gf : Nat} (h : w.heap.size = gr ∧ p < gr ∧ W0.heap.size ≤ gr ∧ gr < lo ∧ lo ≤ gf) : W0.heap.size ≤ gr := by omega
theorem NZ {W0 w : World} {gr p lo gf : Nat} (h : w.heap.size = gr ∧ p < gr ∧ W0.heap.size ≤ gr ∧ gr < lo ∧ lo ≤ gf) : w.heap.size ≤ gr := by omega

set_option maxHeartbeats 16000000 in
theorem l7Any {W0 : World} {a : Option Addr} {len cap : Nat} {l : List Int} {p : Nat} {w : World} (h : Ready W0 a len cap l p w) :
  Calls Tryz.prog 29 #[.pointer (some ⟨p, 0, none⟩)] w (DrewAny W0 a len cap l p w) := by
 obtain ⟨x0, hx0⟩ : ∃ x0, w.alloc (.cells #[.int .i64 0, .int .i64 0, .slice none 0 0, .slice none 0 0, .int .i64 0, .slice none 0 0, .slice none 0 0, .int .i64 0, .int .i64 0, .slice none 0 0, .slice none 0 0] 25) = x0 := ⟨_, rfl⟩
 have HW0 := hid (hx0)
 have R0 : Hid (Ready W0 a len cap l p x0) := by rw [← hx0]; exact h.alloc _
 have B0 : Hid (But p w x0) := by rw [← hx0]; exact (But.refl p w).alloc _
 have KR0 : Hid (Blk x0 w.heap.size 25 [.int .i64 0, .int .i64 0, .slice none 0 0, .slice none 0 0, .int .i64 0, .slice none 0 0, .slice none 0 0, .int .i64 0, .int .i64 0, .slice none 0 0, .slice none 0 0]) := by rw [← hx0]; exact Blk.new w _ [.int .i64 0, .int .i64 0, .slice none 0 0, .slice none 0 0, .int .i64 0, .slice none 0 0, .slice none 0 0, .int .i64 0, .int .i64 0, .slice none 0 0, .slice none 0 0]
 have HP : Hid (p < w.heap.size ∧ W0.heap.size ≤ w.heap.size) := ⟨h.hc.lt, h.hB.size⟩
 clear hx0 h
 go_enter Tryz.func29, Tryz.ntmps29
 go_wp2_with fail
 rw [HW0.out]
 obtain ⟨gr, hgr⟩ : ∃ gr, w.heap.size = gr := ⟨_, rfl⟩
 obtain ⟨lo, hlo⟩ : ∃ lo, x0.heap.size = lo := ⟨_, rfl⟩
 have HG0 : Hid (w.heap.size = gr ∧ p < gr ∧ W0.heap.size ≤ gr ∧ gr < lo) := ⟨hgr, by have := HP.out; omega, by have := HP.out; omega, by have := KR0.out.lt; omega⟩
 rw [hgr] at KR0
 rw [hgr]
 have HLO : Hid (x0.heap.size = lo) := hlo
 clear hgr HW0 HP hlo
 refine (l7Draw R0.out).mono ?_
 rintro e y0 ⟨D, S, rfl, _, ow, r0, b0⟩
 have OY : Hid (FrIn y0 lo y0.heap.size S D) := by rw [← HLO.out]; exact FrIn.of ow
 have RY := hid (r0)
 have BY := hid (B0.out.trans b0)
 have KRY := hid (KR0.out.keep ((Kept.of_grown b0).block gr KR0.out.lt (by have := HG0.out; omega)))
 have LY : Hid (lo ≤ y0.heap.size) := by rw [← HLO.out]; exact b0.size
 clear r0 b0 R0 B0 KR0 ow
 obtain ⟨x1, hx1⟩ : ∃ x1, y0.alloc (.cells #[.int .i64 D.kind, .int .i64 D.id, .slice S.cn.a S.cn.n S.cn.c, .slice S.sn.a S.sn.n S.sn.c, .int .i64 D.tick, .slice S.cookie.a S.cookie.n S.cookie.c, .slice S.proof.a S.proof.n S.proof.c, .int .i64 D.epoch, .int .i64 D.seq, .slice S.body.a S.body.n S.body.c, .slice S.tag.a S.tag.n S.tag.c] 25) = x1 := ⟨_, rfl⟩
 have HW1 := hid (hx1)
 have KF1 : Hid (Blk x1 y0.heap.size 25 [.int .i64 D.kind, .int .i64 D.id, .slice S.cn.a S.cn.n S.cn.c, .slice S.sn.a S.sn.n S.sn.c, .int .i64 D.tick, .slice S.cookie.a S.cookie.n S.cookie.c, .slice S.proof.a S.proof.n S.proof.c, .int .i64 D.epoch, .int .i64 D.seq, .slice S.body.a S.body.n S.body.c, .slice S.tag.a S.tag.n S.tag.c]) := by rw [← hx1]; exact Blk.new y0 _ _
 have OW1 : Hid (FrIn x1 lo y0.heap.size S D) := OY.out.later (by rw [← hx1]; exact (Below.refl _ _).alloc (Nat.le_refl _) _)
 have R1 : Hid (Ready W0 a len cap l p x1) := by rw [← hx1]; exact RY.out.alloc _
 have B1 : Hid (But p w x1) := by rw [← hx1]; exact BY.out.alloc _
 have KR1 : Hid (Blk x1 gr 25 [.int .i64 0, .int .i64 0, .slice none 0 0, .slice none 0 0, .int .i64 0, .slice none 0 0, .slice none 0 0, .int .i64 0, .int .i64 0, .slice none 0 0, .slice none 0 0]) := by rw [← hx1]; exact KRY.out.alloc _
 clear hx1
 unfold frV
 go_wp2_with fail
 rw [HW1.out]
 obtain ⟨gf, hgf⟩ : ∃ gf, y0.heap.size = gf := ⟨_, rfl⟩
 rw [hgf] at KF1 OW1 LY ⊢
 have HG : Hid (w.heap.size = gr ∧ p < gr ∧ W0.heap.size ≤ gr ∧ gr < lo ∧ lo ≤ gf) := ⟨HG0.out.1, HG0.out.2.1, HG0.out.2.2.1, HG0.out.2.2.2, LY.out⟩
 clear HW1 hgf RY BY KRY OY LY HG0 HLO
 refine (below R1.out 22 (by omega) (by omega)).mono ?_
 rintro e x2 ⟨v, rfl, va, vb, r2, b2⟩
 have KP2 : Kept p (p + 1) x1 x2 := Kept.of_grown b2
 have R2 := hid (r2)
 have B2 := hid (B1.out.trans b2)
 have KF2 := hid (KF1.out.keep (KP2.block gf KF1.out.lt (by have := HG.out; omega)))
 have OW2 := hid (OW1.out.carry KP2 (.inr (by have := HG.out; omega)))
 have KR2 := hid (KR1.out.keep (KP2.block gr KR1.out.lt (by have := HG.out; omega)))
 clear r2 b2 KP2 R1 B1 KF1 OW1 KR1
 by_cases k0 : v = 0
 ·
  subst k0
  clear va vb 
  have KFx2 := KF2
  have OWx2 := OW2
  have KRx2 := KR2
  have Bx2 := B2
  have Rx2 := R2
  clear KF2 OW2 KR2 B2 R2
  go_wp2_with fail
  refine (below Rx2.out 11 (by omega) (by omega)).mono ?_
  rintro e x3 ⟨u, rfl, ua, ub, r3, b3⟩
  have Rx3 := hid (r3)
  have hw : IntKind.i64.wrap (u - 1) = u - 1 := by rw [IntKind.wrap_i64]; omega
  clear r3 Rx2
  have KPx3 : Kept p (p + 1) x2 x3 := Kept.of_grown b3
  have Bx3 := hid (Bx2.out.trans b3)
  have KFx3 := hid (KFx2.out.keep (KPx3.block gf KFx2.out.lt (by have := HG.out; omega)))
  have OWx3 := hid (OWx2.out.carry KPx3 (.inr (by have := HG.out; omega)))
  have KRx3 := hid (KRx2.out.keep (KPx3.block gr KRx2.out.lt (by have := HG.out; omega)))
  clear KPx3 b3 Bx2 KFx2 OWx2 KRx2
  have co : x3.cell? ⟨gf, 0, none⟩ = some (.int .i64 D.kind) := KFx3.out.cell 0 rfl
  have fo := KFx3.out.frozen 0
  obtain ⟨z, hz⟩ : ∃ z, x3.setCell ⟨gf, 0, none⟩ (.int .i64 (u - 1)) = z := ⟨_, rfl⟩
  have HZ := hid (hz)
  have KFz : Hid (Blk z gf 25 [.int .i64 (u - 1), .int .i64 D.id, .slice S.cn.a S.cn.n S.cn.c, .slice S.sn.a S.sn.n S.sn.c, .int .i64 D.tick, .slice S.cookie.a S.cookie.n S.cookie.c, .slice S.proof.a S.proof.n S.proof.c, .int .i64 D.epoch, .int .i64 D.seq, .slice S.body.a S.body.n S.body.c, .slice S.tag.a S.tag.n S.tag.c]) := by rw [← hz]; exact KFx3.out.set 0 _ (by simp [maxLen])
  have OWz : Hid (FrIn z lo gf S D) := by rw [← hz]; exact OWx3.out.carry (Kept.setCell x3 gf 0 _) (.inl (Nat.le_refl _))
  have KRz : Hid (Blk z gr 25 [.int .i64 0, .int .i64 0, .slice none 0 0, .slice none 0 0, .int .i64 0, .slice none 0 0, .slice none 0 0, .int .i64 0, .int .i64 0, .slice none 0 0, .slice none 0 0]) := by rw [← hz]; exact KRx3.out.other (by show gr ≠ gf; have := HG.out; omega) _
  have Bz : Hid (But p w z) := by rw [← hz]; exact But_setCell Bx3.out _ _ (by show w.heap.size ≤ gf; have := HG.out; omega)
  have Rz : Hid (Ready W0 a len cap l p z) := by rw [← hz]; exact Ready_setCell Rx3.out _ _ (by show gf ≠ p; have := HG.out; omega) (by show W0.heap.size ≤ gf; have := HG.out; omega)
  clear hz KFx3 OWx3 KRx3 Bx3 Rx3
  go_upto_region 25 with fail
  rw [HZ.out]
  clear co fo HZ
  have zc0 := KRz.out.cell 0 rfl
  have zf0 := KRz.out.frozen 0
  have zo0 : z.cell? ⟨gf, 0, none⟩ = some (.int .i64 (u - 1)) := KFz.out.cell 0 rfl
  have zc1 := KRz.out.cell 1 rfl
  have zf1 := KRz.out.frozen 1
  have zo1 : z.cell? ⟨gf, 1, none⟩ = some (.int .i64 D.id) := KFz.out.cell 1 rfl
  have zc2 := KRz.out.cell 2 rfl
  have zf2 := KRz.out.frozen 2
  have zo2 : z.cell? ⟨gf, 2, none⟩ = some (.slice S.cn.a S.cn.n S.cn.c) := KFz.out.cell 2 rfl
  have zc3 := KRz.out.cell 3 rfl
  have zf3 := KRz.out.frozen 3
  have zo3 : z.cell? ⟨gf, 3, none⟩ = some (.slice S.sn.a S.sn.n S.sn.c) := KFz.out.cell 3 rfl
  have zc4 := KRz.out.cell 4 rfl
  have zf4 := KRz.out.frozen 4
  have zo4 : z.cell? ⟨gf, 4, none⟩ = some (.int .i64 D.tick) := KFz.out.cell 4 rfl
  have zc5 := KRz.out.cell 5 rfl
  have zf5 := KRz.out.frozen 5
  have zo5 : z.cell? ⟨gf, 5, none⟩ = some (.slice S.cookie.a S.cookie.n S.cookie.c) := KFz.out.cell 5 rfl
  have zc6 := KRz.out.cell 6 rfl
  have zf6 := KRz.out.frozen 6
  have zo6 : z.cell? ⟨gf, 6, none⟩ = some (.slice S.proof.a S.proof.n S.proof.c) := KFz.out.cell 6 rfl
  have zc7 := KRz.out.cell 7 rfl
  have zf7 := KRz.out.frozen 7
  have zo7 : z.cell? ⟨gf, 7, none⟩ = some (.int .i64 D.epoch) := KFz.out.cell 7 rfl
  have zc8 := KRz.out.cell 8 rfl
  have zf8 := KRz.out.frozen 8
  have zo8 : z.cell? ⟨gf, 8, none⟩ = some (.int .i64 D.seq) := KFz.out.cell 8 rfl
  have zc9 := KRz.out.cell 9 rfl
  have zf9 := KRz.out.frozen 9
  have zo9 : z.cell? ⟨gf, 9, none⟩ = some (.slice S.body.a S.body.n S.body.c) := KFz.out.cell 9 rfl
  have zc10 := KRz.out.cell 10 rfl
  have zf10 := KRz.out.frozen 10
  have zo10 : z.cell? ⟨gf, 10, none⟩ = some (.slice S.tag.a S.tag.n S.tag.c) := KFz.out.cell 10 rfl
  have ne1 : gr ≠ gf := by have := HG.out; omega
  have ne2 : gf ≠ gr := by have := HG.out; omega
  have LGF : Hid (gf < z.heap.size) := KFz.out.lt
  go_wp2
  have KE : Blk ((((((((((((z).setCell ⟨gr, 0, none⟩ (.int .i64 (u - 1))).setCell ⟨gr, 1, none⟩ (.int .i64 D.id)).setCell ⟨gr, 2, none⟩ (.slice S.cn.a S.cn.n S.cn.c)).setCell ⟨gr, 3, none⟩ (.slice S.sn.a S.sn.n S.sn.c)).setCell ⟨gr, 4, none⟩ (.int .i64 D.tick)).setCell ⟨gr, 5, none⟩ (.slice S.cookie.a S.cookie.n S.cookie.c)).setCell ⟨gr, 6, none⟩ (.slice S.proof.a S.proof.n S.proof.c)).setCell ⟨gr, 7, none⟩ (.int .i64 D.epoch)).setCell ⟨gr, 8, none⟩ (.int .i64 D.seq)).setCell ⟨gr, 9, none⟩ (.slice S.body.a S.body.n S.body.c)).setCell ⟨gr, 10, none⟩ (.slice S.tag.a S.tag.n S.tag.c)) gr 25 [.int .i64 (u - 1), .int .i64 D.id, .slice S.cn.a S.cn.n S.cn.c, .slice S.sn.a S.sn.n S.sn.c, .int .i64 D.tick, .slice S.cookie.a S.cookie.n S.cookie.c, .slice S.proof.a S.proof.n S.proof.c, .int .i64 D.epoch, .int .i64 D.seq, .slice S.body.a S.body.n S.body.c, .slice S.tag.a S.tag.n S.tag.c] := (((((((((((KRz.out).set 0 _ (by simp [maxLen])).set 1 _ (by simp [maxLen])).set 2 _ (by simp [maxLen])).set 3 _ (by simp [maxLen])).set 4 _ (by simp [maxLen])).set 5 _ (by simp [maxLen])).set 6 _ (by simp [maxLen])).set 7 _ (by simp [maxLen])).set 8 _ (by simp [maxLen])).set 9 _ (by simp [maxLen])).set 10 _ (by simp [maxLen])
  have KK : Kept gr (gr + 1) z ((((((((((((z).setCell ⟨gr, 0, none⟩ (.int .i64 (u - 1))).setCell ⟨gr, 1, none⟩ (.int .i64 D.id)).setCell ⟨gr, 2, none⟩ (.slice S.cn.a S.cn.n S.cn.c)).setCell ⟨gr, 3, none⟩ (.slice S.sn.a S.sn.n S.sn.c)).setCell ⟨gr, 4, none⟩ (.int .i64 D.tick)).setCell ⟨gr, 5, none⟩ (.slice S.cookie.a S.cookie.n S.cookie.c)).setCell ⟨gr, 6, none⟩ (.slice S.proof.a S.proof.n S.proof.c)).setCell ⟨gr, 7, none⟩ (.int .i64 D.epoch)).setCell ⟨gr, 8, none⟩ (.int .i64 D.seq)).setCell ⟨gr, 9, none⟩ (.slice S.body.a S.body.n S.body.c)).setCell ⟨gr, 10, none⟩ (.slice S.tag.a S.tag.n S.tag.c)) := ((((((((((((Kept.refl gr (gr + 1) z)).trans (Kept.setCell _ gr 0 _)).trans (Kept.setCell _ gr 1 _)).trans (Kept.setCell _ gr 2 _)).trans (Kept.setCell _ gr 3 _)).trans (Kept.setCell _ gr 4 _)).trans (Kept.setCell _ gr 5 _)).trans (Kept.setCell _ gr 6 _)).trans (Kept.setCell _ gr 7 _)).trans (Kept.setCell _ gr 8 _)).trans (Kept.setCell _ gr 9 _)).trans (Kept.setCell _ gr 10 _)
  have IE := (OWz.out.carry KK (.inr (by have := HG.out; omega))).mono (lo' := w.heap.size) (hi' := ((((((((((((z).setCell ⟨gr, 0, none⟩ (.int .i64 (u - 1))).setCell ⟨gr, 1, none⟩ (.int .i64 D.id)).setCell ⟨gr, 2, none⟩ (.slice S.cn.a S.cn.n S.cn.c)).setCell ⟨gr, 3, none⟩ (.slice S.sn.a S.sn.n S.sn.c)).setCell ⟨gr, 4, none⟩ (.int .i64 D.tick)).setCell ⟨gr, 5, none⟩ (.slice S.cookie.a S.cookie.n S.cookie.c)).setCell ⟨gr, 6, none⟩ (.slice S.proof.a S.proof.n S.proof.c)).setCell ⟨gr, 7, none⟩ (.int .i64 D.epoch)).setCell ⟨gr, 8, none⟩ (.int .i64 D.seq)).setCell ⟨gr, 9, none⟩ (.slice S.body.a S.body.n S.body.c)).setCell ⟨gr, 10, none⟩ (.slice S.tag.a S.tag.n S.tag.c)).heap.size) (by have := HG.out; omega) (Nat.le_trans (Nat.le_of_lt LGF.out) KK.size)
  exact ret_any rfl rfl KE rfl (D := { D with kind := u - 1 }) (S := S) ⟨IE.cn, IE.sn, IE.cookie, IE.proof, IE.body, IE.tag⟩ (Ready_setCell (Ready_setCell (Ready_setCell (Ready_setCell (Ready_setCell (Ready_setCell (Ready_setCell (Ready_setCell (Ready_setCell (Ready_setCell (Ready_setCell (Rz.out) _ _ (NP HG.out) (NW HG.out)) _ _ (NP HG.out) (NW HG.out)) _ _ (NP HG.out) (NW HG.out)) _ _ (NP HG.out) (NW HG.out)) _ _ (NP HG.out) (NW HG.out)) _ _ (NP HG.out) (NW HG.out)) _ _ (NP HG.out) (NW HG.out)) _ _ (NP HG.out) (NW HG.out)) _ _ (NP HG.out) (NW HG.out)) _ _ (NP HG.out) (NW HG.out)) _ _ (NP HG.out) (NW HG.out)) (But_setCell (But_setCell (But_setCell (But_setCell (But_setCell (But_setCell (But_setCell (But_setCell (But_setCell (But_setCell (But_setCell (Bz.out) _ _ (NZ HG.out)) _ _ (NZ HG.out)) _ _ (NZ HG.out)) _ _ (NZ HG.out)) _ _ (NZ HG.out)) _ _ (NZ HG.out)) _ _ (NZ HG.out)) _ _ (NZ HG.out)) _ _ (NZ HG.out)) _ _ (NZ HG.out)) _ _ (NZ HG.out))
 have e0 : (v == 0) = false := by simpa using k0
 by_cases k1 : v = 1
 ·
  subst k1
  clear va vb k0 e0
  have KFx2 := KF2
  have OWx2 := OW2
  have KRx2 := KR2
  have Bx2 := B2
  have Rx2 := R2
  clear KF2 OW2 KR2 B2 R2
  obtain ⟨xi, hxi⟩ : ∃ xi, x2.alloc (.cells #[.int .i64 0, .int .i64 1, .int .i64 10, .int .i64 (-1)] 3) = xi := ⟨_, rfl⟩
  have HI := hid (hxi)
  have RI : Hid (Ready W0 a len cap l p xi) := by rw [← hxi]; exact Rx2.out.alloc _
  have BI : Hid (But p x2 xi) := by rw [← hxi]; exact (But.refl p x2).alloc _
  have LI : Hid (IntsAt xi x2.heap.size [0, 1, 10, -1]) := by rw [← hxi]; exact ints_new x2 [0, 1, 10, -1]
  have NI : Hid (x2.heap.size ≠ p) := by have := Rx2.out.hc.lt; show _ ≠ _; omega
  clear hxi
  go_wp2_with fail
  rw [HI.out]
  clear HI
  refine (intOfList RI.out x2.heap.size 4 [0, 1, 10, -1] rfl LI.out NI.out (by omega) (by omega)).mono ?_
  rintro e x3 ⟨u, rfl, um, ry, by0⟩
  have Rx3 := hid (ry)
  have by1 : But p x2 x3 := BI.out.trans by0
  clear ry by0 RI BI LI NI Rx2
  have KPx3 : Kept p (p + 1) x2 x3 := Kept.of_grown by1
  have Bx3 := hid (Bx2.out.trans by1)
  have KFx3 := hid (KFx2.out.keep (KPx3.block gf KFx2.out.lt (by have := HG.out; omega)))
  have OWx3 := hid (OWx2.out.carry KPx3 (.inr (by have := HG.out; omega)))
  have KRx3 := hid (KRx2.out.keep (KPx3.block gr KRx2.out.lt (by have := HG.out; omega)))
  clear KPx3 by1 Bx2 KFx2 OWx2 KRx2
  clear um
  have co : x3.cell? ⟨gf, 1, none⟩ = some (.int .i64 D.id) := KFx3.out.cell 1 rfl
  have fo := KFx3.out.frozen 1
  obtain ⟨z, hz⟩ : ∃ z, x3.setCell ⟨gf, 1, none⟩ (.int .i64 u) = z := ⟨_, rfl⟩
  have HZ := hid (hz)
  have KFz : Hid (Blk z gf 25 [.int .i64 D.kind, .int .i64 u, .slice S.cn.a S.cn.n S.cn.c, .slice S.sn.a S.sn.n S.sn.c, .int .i64 D.tick, .slice S.cookie.a S.cookie.n S.cookie.c, .slice S.proof.a S.proof.n S.proof.c, .int .i64 D.epoch, .int .i64 D.seq, .slice S.body.a S.body.n S.body.c, .slice S.tag.a S.tag.n S.tag.c]) := by rw [← hz]; exact KFx3.out.set 1 _ (by simp [maxLen])
  have OWz : Hid (FrIn z lo gf S D) := by rw [← hz]; exact OWx3.out.carry (Kept.setCell x3 gf 1 _) (.inl (Nat.le_refl _))
  have KRz : Hid (Blk z gr 25 [.int .i64 0, .int .i64 0, .slice none 0 0, .slice none 0 0, .int .i64 0, .slice none 0 0, .slice none 0 0, .int .i64 0, .int .i64 0, .slice none 0 0, .slice none 0 0]) := by rw [← hz]; exact KRx3.out.other (by show gr ≠ gf; have := HG.out; omega) _
  have Bz : Hid (But p w z) := by rw [← hz]; exact But_setCell Bx3.out _ _ (by show w.heap.size ≤ gf; have := HG.out; omega)
  have Rz : Hid (Ready W0 a len cap l p z) := by rw [← hz]; exact Ready_setCell Rx3.out _ _ (by show gf ≠ p; have := HG.out; omega) (by show W0.heap.size ≤ gf; have := HG.out; omega)
  clear hz KFx3 OWx3 KRx3 Bx3 Rx3
  go_upto_region 25 with fail
  rw [HZ.out]
  clear co fo HZ
  have zc0 := KRz.out.cell 0 rfl
  have zf0 := KRz.out.frozen 0
  have zo0 : z.cell? ⟨gf, 0, none⟩ = some (.int .i64 D.kind) := KFz.out.cell 0 rfl
  have zc1 := KRz.out.cell 1 rfl
  have zf1 := KRz.out.frozen 1
  have zo1 : z.cell? ⟨gf, 1, none⟩ = some (.int .i64 u) := KFz.out.cell 1 rfl
  have zc2 := KRz.out.cell 2 rfl
  have zf2 := KRz.out.frozen 2
  have zo2 : z.cell? ⟨gf, 2, none⟩ = some (.slice S.cn.a S.cn.n S.cn.c) := KFz.out.cell 2 rfl
  have zc3 := KRz.out.cell 3 rfl
  have zf3 := KRz.out.frozen 3
  have zo3 : z.cell? ⟨gf, 3, none⟩ = some (.slice S.sn.a S.sn.n S.sn.c) := KFz.out.cell 3 rfl
  have zc4 := KRz.out.cell 4 rfl
  have zf4 := KRz.out.frozen 4
  have zo4 : z.cell? ⟨gf, 4, none⟩ = some (.int .i64 D.tick) := KFz.out.cell 4 rfl
  have zc5 := KRz.out.cell 5 rfl
  have zf5 := KRz.out.frozen 5
  have zo5 : z.cell? ⟨gf, 5, none⟩ = some (.slice S.cookie.a S.cookie.n S.cookie.c) := KFz.out.cell 5 rfl
  have zc6 := KRz.out.cell 6 rfl
  have zf6 := KRz.out.frozen 6
  have zo6 : z.cell? ⟨gf, 6, none⟩ = some (.slice S.proof.a S.proof.n S.proof.c) := KFz.out.cell 6 rfl
  have zc7 := KRz.out.cell 7 rfl
  have zf7 := KRz.out.frozen 7
  have zo7 : z.cell? ⟨gf, 7, none⟩ = some (.int .i64 D.epoch) := KFz.out.cell 7 rfl
  have zc8 := KRz.out.cell 8 rfl
  have zf8 := KRz.out.frozen 8
  have zo8 : z.cell? ⟨gf, 8, none⟩ = some (.int .i64 D.seq) := KFz.out.cell 8 rfl
  have zc9 := KRz.out.cell 9 rfl
  have zf9 := KRz.out.frozen 9
  have zo9 : z.cell? ⟨gf, 9, none⟩ = some (.slice S.body.a S.body.n S.body.c) := KFz.out.cell 9 rfl
  have zc10 := KRz.out.cell 10 rfl
  have zf10 := KRz.out.frozen 10
  have zo10 : z.cell? ⟨gf, 10, none⟩ = some (.slice S.tag.a S.tag.n S.tag.c) := KFz.out.cell 10 rfl
  have ne1 : gr ≠ gf := by have := HG.out; omega
  have ne2 : gf ≠ gr := by have := HG.out; omega
  have LGF : Hid (gf < z.heap.size) := KFz.out.lt
  go_wp2
  have KE : Blk ((((((((((((z).setCell ⟨gr, 0, none⟩ (.int .i64 D.kind)).setCell ⟨gr, 1, none⟩ (.int .i64 u)).setCell ⟨gr, 2, none⟩ (.slice S.cn.a S.cn.n S.cn.c)).setCell ⟨gr, 3, none⟩ (.slice S.sn.a S.sn.n S.sn.c)).setCell ⟨gr, 4, none⟩ (.int .i64 D.tick)).setCell ⟨gr, 5, none⟩ (.slice S.cookie.a S.cookie.n S.cookie.c)).setCell ⟨gr, 6, none⟩ (.slice S.proof.a S.proof.n S.proof.c)).setCell ⟨gr, 7, none⟩ (.int .i64 D.epoch)).setCell ⟨gr, 8, none⟩ (.int .i64 D.seq)).setCell ⟨gr, 9, none⟩ (.slice S.body.a S.body.n S.body.c)).setCell ⟨gr, 10, none⟩ (.slice S.tag.a S.tag.n S.tag.c)) gr 25 [.int .i64 D.kind, .int .i64 u, .slice S.cn.a S.cn.n S.cn.c, .slice S.sn.a S.sn.n S.sn.c, .int .i64 D.tick, .slice S.cookie.a S.cookie.n S.cookie.c, .slice S.proof.a S.proof.n S.proof.c, .int .i64 D.epoch, .int .i64 D.seq, .slice S.body.a S.body.n S.body.c, .slice S.tag.a S.tag.n S.tag.c] := (((((((((((KRz.out).set 0 _ (by simp [maxLen])).set 1 _ (by simp [maxLen])).set 2 _ (by simp [maxLen])).set 3 _ (by simp [maxLen])).set 4 _ (by simp [maxLen])).set 5 _ (by simp [maxLen])).set 6 _ (by simp [maxLen])).set 7 _ (by simp [maxLen])).set 8 _ (by simp [maxLen])).set 9 _ (by simp [maxLen])).set 10 _ (by simp [maxLen])
  have KK : Kept gr (gr + 1) z ((((((((((((z).setCell ⟨gr, 0, none⟩ (.int .i64 D.kind)).setCell ⟨gr, 1, none⟩ (.int .i64 u)).setCell ⟨gr, 2, none⟩ (.slice S.cn.a S.cn.n S.cn.c)).setCell ⟨gr, 3, none⟩ (.slice S.sn.a S.sn.n S.sn.c)).setCell ⟨gr, 4, none⟩ (.int .i64 D.tick)).setCell ⟨gr, 5, none⟩ (.slice S.cookie.a S.cookie.n S.cookie.c)).setCell ⟨gr, 6, none⟩ (.slice S.proof.a S.proof.n S.proof.c)).setCell ⟨gr, 7, none⟩ (.int .i64 D.epoch)).setCell ⟨gr, 8, none⟩ (.int .i64 D.seq)).setCell ⟨gr, 9, none⟩ (.slice S.body.a S.body.n S.body.c)).setCell ⟨gr, 10, none⟩ (.slice S.tag.a S.tag.n S.tag.c)) := ((((((((((((Kept.refl gr (gr + 1) z)).trans (Kept.setCell _ gr 0 _)).trans (Kept.setCell _ gr 1 _)).trans (Kept.setCell _ gr 2 _)).trans (Kept.setCell _ gr 3 _)).trans (Kept.setCell _ gr 4 _)).trans (Kept.setCell _ gr 5 _)).trans (Kept.setCell _ gr 6 _)).trans (Kept.setCell _ gr 7 _)).trans (Kept.setCell _ gr 8 _)).trans (Kept.setCell _ gr 9 _)).trans (Kept.setCell _ gr 10 _)
  have IE := (OWz.out.carry KK (.inr (by have := HG.out; omega))).mono (lo' := w.heap.size) (hi' := ((((((((((((z).setCell ⟨gr, 0, none⟩ (.int .i64 D.kind)).setCell ⟨gr, 1, none⟩ (.int .i64 u)).setCell ⟨gr, 2, none⟩ (.slice S.cn.a S.cn.n S.cn.c)).setCell ⟨gr, 3, none⟩ (.slice S.sn.a S.sn.n S.sn.c)).setCell ⟨gr, 4, none⟩ (.int .i64 D.tick)).setCell ⟨gr, 5, none⟩ (.slice S.cookie.a S.cookie.n S.cookie.c)).setCell ⟨gr, 6, none⟩ (.slice S.proof.a S.proof.n S.proof.c)).setCell ⟨gr, 7, none⟩ (.int .i64 D.epoch)).setCell ⟨gr, 8, none⟩ (.int .i64 D.seq)).setCell ⟨gr, 9, none⟩ (.slice S.body.a S.body.n S.body.c)).setCell ⟨gr, 10, none⟩ (.slice S.tag.a S.tag.n S.tag.c)).heap.size) (by have := HG.out; omega) (Nat.le_trans (Nat.le_of_lt LGF.out) KK.size)
  exact ret_any rfl rfl KE rfl (D := { D with id := u }) (S := S) ⟨IE.cn, IE.sn, IE.cookie, IE.proof, IE.body, IE.tag⟩ (Ready_setCell (Ready_setCell (Ready_setCell (Ready_setCell (Ready_setCell (Ready_setCell (Ready_setCell (Ready_setCell (Ready_setCell (Ready_setCell (Ready_setCell (Rz.out) _ _ (NP HG.out) (NW HG.out)) _ _ (NP HG.out) (NW HG.out)) _ _ (NP HG.out) (NW HG.out)) _ _ (NP HG.out) (NW HG.out)) _ _ (NP HG.out) (NW HG.out)) _ _ (NP HG.out) (NW HG.out)) _ _ (NP HG.out) (NW HG.out)) _ _ (NP HG.out) (NW HG.out)) _ _ (NP HG.out) (NW HG.out)) _ _ (NP HG.out) (NW HG.out)) _ _ (NP HG.out) (NW HG.out)) (But_setCell (But_setCell (But_setCell (But_setCell (But_setCell (But_setCell (But_setCell (But_setCell (But_setCell (But_setCell (But_setCell (Bz.out) _ _ (NZ HG.out)) _ _ (NZ HG.out)) _ _ (NZ HG.out)) _ _ (NZ HG.out)) _ _ (NZ HG.out)) _ _ (NZ HG.out)) _ _ (NZ HG.out)) _ _ (NZ HG.out)) _ _ (NZ HG.out)) _ _ (NZ HG.out)) _ _ (NZ HG.out))
 have e1 : (v == 1) = false := by simpa using k1
 by_cases k2 : v = 2
 ·
  subst k2
  clear va vb k0 e0 k1 e1
  have KFx2 := KF2
  have OWx2 := OW2
  have KRx2 := KR2
  have Bx2 := B2
  have Rx2 := R2
  clear KF2 OW2 KR2 B2 R2
  obtain ⟨xi, hxi⟩ : ∃ xi, x2.alloc (.cells #[.int .i64 0, .int .i64 11, .int .i64 12, .int .i64 13] 3) = xi := ⟨_, rfl⟩
  have HI := hid (hxi)
  have RI : Hid (Ready W0 a len cap l p xi) := by rw [← hxi]; exact Rx2.out.alloc _
  have BI : Hid (But p x2 xi) := by rw [← hxi]; exact (But.refl p x2).alloc _
  have LI : Hid (IntsAt xi x2.heap.size [0, 11, 12, 13]) := by rw [← hxi]; exact ints_new x2 [0, 11, 12, 13]
  have NI : Hid (x2.heap.size ≠ p) := by have := Rx2.out.hc.lt; show _ ≠ _; omega
  clear hxi
  go_wp2_with fail
  rw [HI.out]
  clear HI
  refine (intOfList RI.out x2.heap.size 4 [0, 11, 12, 13] rfl LI.out NI.out (by omega) (by omega)).mono ?_
  rintro e x3 ⟨u, rfl, um, ry, by0⟩
  have Rx3 := hid (ry)
  have by1 : But p x2 x3 := BI.out.trans by0
  clear ry by0 RI BI LI NI Rx2
  have KPx3 : Kept p (p + 1) x2 x3 := Kept.of_grown by1
  have Bx3 := hid (Bx2.out.trans by1)
  have KFx3 := hid (KFx2.out.keep (KPx3.block gf KFx2.out.lt (by have := HG.out; omega)))
  have OWx3 := hid (OWx2.out.carry KPx3 (.inr (by have := HG.out; omega)))
  have KRx3 := hid (KRx2.out.keep (KPx3.block gr KRx2.out.lt (by have := HG.out; omega)))
  clear KPx3 by1 Bx2 KFx2 OWx2 KRx2
  simp only [List.mem_cons, List.mem_nil_iff, or_false] at um
  obtain ⟨V, hV⟩ := Int.eq_ofNat_of_zero_le (show 0 ≤ u by omega)
  subst hV
  have hV : V ≤ 1000 := by omega
  clear um
  go_wp2_with fail
  refine (bytesOf Rx3.out V hV).mono ?_
  rintro e x4 ⟨q, c4, l4, rfl, el, hb4, kq, w4, r4, b4⟩
  have Rx4 := hid (r4)
  have GQ : Hid (gf < q) := Nat.lt_of_lt_of_le KFx3.out.lt kq
  have W4 : Hid (Row x4 q c4 l4 ∧ V = l4.length ∧ Bytes l4) := ⟨w4, el, hb4⟩
  clear r4 Rx3 kq w4 el hb4
  have KPx4 : Kept p (p + 1) x3 x4 := Kept.of_grown b4
  have Bx4 := hid (Bx3.out.trans b4)
  have KFx4 := hid (KFx3.out.keep (KPx4.block gf KFx3.out.lt (by have := HG.out; omega)))
  have OWx4 := hid (OWx3.out.carry KPx4 (.inr (by have := HG.out; omega)))
  have KRx4 := hid (KRx3.out.keep (KPx4.block gr KRx3.out.lt (by have := HG.out; omega)))
  clear KPx4 b4 Bx3 KFx3 OWx3 KRx3
  have co : x4.cell? ⟨gf, 2, none⟩ = some (.slice S.cn.a S.cn.n S.cn.c) := KFx4.out.cell 2 rfl
  have fo := KFx4.out.frozen 2
  obtain ⟨z, hz⟩ : ∃ z, x4.setCell ⟨gf, 2, none⟩ (.slice (some ⟨q, 0, none⟩) V c4) = z := ⟨_, rfl⟩
  have HZ := hid (hz)
  have KFz : Hid (Blk z gf 25 [.int .i64 D.kind, .int .i64 D.id, .slice (some ⟨q, 0, none⟩) V c4, .slice S.sn.a S.sn.n S.sn.c, .int .i64 D.tick, .slice S.cookie.a S.cookie.n S.cookie.c, .slice S.proof.a S.proof.n S.proof.c, .int .i64 D.epoch, .int .i64 D.seq, .slice S.body.a S.body.n S.body.c, .slice S.tag.a S.tag.n S.tag.c]) := by rw [← hz]; exact KFx4.out.set 2 _ (by simp [maxLen])
  have OWz : Hid (FrIn z lo gf S D) := by rw [← hz]; exact OWx4.out.carry (Kept.setCell x4 gf 2 _) (.inl (Nat.le_refl _))
  have KRz : Hid (Blk z gr 25 [.int .i64 0, .int .i64 0, .slice none 0 0, .slice none 0 0, .int .i64 0, .slice none 0 0, .slice none 0 0, .int .i64 0, .int .i64 0, .slice none 0 0, .slice none 0 0]) := by rw [← hz]; exact KRx4.out.other (by show gr ≠ gf; have := HG.out; omega) _
  have Bz : Hid (But p w z) := by rw [← hz]; exact But_setCell Bx4.out _ _ (by show w.heap.size ≤ gf; have := HG.out; omega)
  have Rz : Hid (Ready W0 a len cap l p z) := by rw [← hz]; exact Ready_setCell Rx4.out _ _ (by show gf ≠ p; have := HG.out; omega) (by show W0.heap.size ≤ gf; have := HG.out; omega)
  have NS : Hid (SOwn z (gf + 1) z.heap.size ⟨some ⟨q, 0, none⟩, V, c4⟩ l4) := by
   have r : Row z q c4 l4 := by rw [← hz]; exact W4.out.1.keep (Below.heap_setCell x4 _ _ q (by show q ≠ gf; have := GQ.out; omega))
   exact SOwn.row r W4.out.2.1 W4.out.2.2 GQ.out r.lt
  clear hz KFx4 OWx4 KRx4 Bx4 Rx4 W4
  go_upto_region 25 with fail
  rw [HZ.out]
  clear co fo HZ
  have zc0 := KRz.out.cell 0 rfl
  have zf0 := KRz.out.frozen 0
  have zo0 : z.cell? ⟨gf, 0, none⟩ = some (.int .i64 D.kind) := KFz.out.cell 0 rfl
  have zc1 := KRz.out.cell 1 rfl
  have zf1 := KRz.out.frozen 1
  have zo1 : z.cell? ⟨gf, 1, none⟩ = some (.int .i64 D.id) := KFz.out.cell 1 rfl
  have zc2 := KRz.out.cell 2 rfl
  have zf2 := KRz.out.frozen 2
  have zo2 : z.cell? ⟨gf, 2, none⟩ = some (.slice (some ⟨q, 0, none⟩) V c4) := KFz.out.cell 2 rfl
  have zc3 := KRz.out.cell 3 rfl
  have zf3 := KRz.out.frozen 3
  have zo3 : z.cell? ⟨gf, 3, none⟩ = some (.slice S.sn.a S.sn.n S.sn.c) := KFz.out.cell 3 rfl
  have zc4 := KRz.out.cell 4 rfl
  have zf4 := KRz.out.frozen 4
  have zo4 : z.cell? ⟨gf, 4, none⟩ = some (.int .i64 D.tick) := KFz.out.cell 4 rfl
  have zc5 := KRz.out.cell 5 rfl
  have zf5 := KRz.out.frozen 5
  have zo5 : z.cell? ⟨gf, 5, none⟩ = some (.slice S.cookie.a S.cookie.n S.cookie.c) := KFz.out.cell 5 rfl
  have zc6 := KRz.out.cell 6 rfl
  have zf6 := KRz.out.frozen 6
  have zo6 : z.cell? ⟨gf, 6, none⟩ = some (.slice S.proof.a S.proof.n S.proof.c) := KFz.out.cell 6 rfl
  have zc7 := KRz.out.cell 7 rfl
  have zf7 := KRz.out.frozen 7
  have zo7 : z.cell? ⟨gf, 7, none⟩ = some (.int .i64 D.epoch) := KFz.out.cell 7 rfl
  have zc8 := KRz.out.cell 8 rfl
  have zf8 := KRz.out.frozen 8
  have zo8 : z.cell? ⟨gf, 8, none⟩ = some (.int .i64 D.seq) := KFz.out.cell 8 rfl
  have zc9 := KRz.out.cell 9 rfl
  have zf9 := KRz.out.frozen 9
  have zo9 : z.cell? ⟨gf, 9, none⟩ = some (.slice S.body.a S.body.n S.body.c) := KFz.out.cell 9 rfl
  have zc10 := KRz.out.cell 10 rfl
  have zf10 := KRz.out.frozen 10
  have zo10 : z.cell? ⟨gf, 10, none⟩ = some (.slice S.tag.a S.tag.n S.tag.c) := KFz.out.cell 10 rfl
  have ne1 : gr ≠ gf := by have := HG.out; omega
  have ne2 : gf ≠ gr := by have := HG.out; omega
  have LGF : Hid (gf < z.heap.size) := KFz.out.lt
  go_wp2
  have KE : Blk ((((((((((((z).setCell ⟨gr, 0, none⟩ (.int .i64 D.kind)).setCell ⟨gr, 1, none⟩ (.int .i64 D.id)).setCell ⟨gr, 2, none⟩ (.slice (some ⟨q, 0, none⟩) V c4)).setCell ⟨gr, 3, none⟩ (.slice S.sn.a S.sn.n S.sn.c)).setCell ⟨gr, 4, none⟩ (.int .i64 D.tick)).setCell ⟨gr, 5, none⟩ (.slice S.cookie.a S.cookie.n S.cookie.c)).setCell ⟨gr, 6, none⟩ (.slice S.proof.a S.proof.n S.proof.c)).setCell ⟨gr, 7, none⟩ (.int .i64 D.epoch)).setCell ⟨gr, 8, none⟩ (.int .i64 D.seq)).setCell ⟨gr, 9, none⟩ (.slice S.body.a S.body.n S.body.c)).setCell ⟨gr, 10, none⟩ (.slice S.tag.a S.tag.n S.tag.c)) gr 25 [.int .i64 D.kind, .int .i64 D.id, .slice (some ⟨q, 0, none⟩) V c4, .slice S.sn.a S.sn.n S.sn.c, .int .i64 D.tick, .slice S.cookie.a S.cookie.n S.cookie.c, .slice S.proof.a S.proof.n S.proof.c, .int .i64 D.epoch, .int .i64 D.seq, .slice S.body.a S.body.n S.body.c, .slice S.tag.a S.tag.n S.tag.c] := (((((((((((KRz.out).set 0 _ (by simp [maxLen])).set 1 _ (by simp [maxLen])).set 2 _ (by simp [maxLen])).set 3 _ (by simp [maxLen])).set 4 _ (by simp [maxLen])).set 5 _ (by simp [maxLen])).set 6 _ (by simp [maxLen])).set 7 _ (by simp [maxLen])).set 8 _ (by simp [maxLen])).set 9 _ (by simp [maxLen])).set 10 _ (by simp [maxLen])
  have KK : Kept gr (gr + 1) z ((((((((((((z).setCell ⟨gr, 0, none⟩ (.int .i64 D.kind)).setCell ⟨gr, 1, none⟩ (.int .i64 D.id)).setCell ⟨gr, 2, none⟩ (.slice (some ⟨q, 0, none⟩) V c4)).setCell ⟨gr, 3, none⟩ (.slice S.sn.a S.sn.n S.sn.c)).setCell ⟨gr, 4, none⟩ (.int .i64 D.tick)).setCell ⟨gr, 5, none⟩ (.slice S.cookie.a S.cookie.n S.cookie.c)).setCell ⟨gr, 6, none⟩ (.slice S.proof.a S.proof.n S.proof.c)).setCell ⟨gr, 7, none⟩ (.int .i64 D.epoch)).setCell ⟨gr, 8, none⟩ (.int .i64 D.seq)).setCell ⟨gr, 9, none⟩ (.slice S.body.a S.body.n S.body.c)).setCell ⟨gr, 10, none⟩ (.slice S.tag.a S.tag.n S.tag.c)) := ((((((((((((Kept.refl gr (gr + 1) z)).trans (Kept.setCell _ gr 0 _)).trans (Kept.setCell _ gr 1 _)).trans (Kept.setCell _ gr 2 _)).trans (Kept.setCell _ gr 3 _)).trans (Kept.setCell _ gr 4 _)).trans (Kept.setCell _ gr 5 _)).trans (Kept.setCell _ gr 6 _)).trans (Kept.setCell _ gr 7 _)).trans (Kept.setCell _ gr 8 _)).trans (Kept.setCell _ gr 9 _)).trans (Kept.setCell _ gr 10 _)
  have IE := (OWz.out.carry KK (.inr (by have := HG.out; omega))).mono (lo' := w.heap.size) (hi' := ((((((((((((z).setCell ⟨gr, 0, none⟩ (.int .i64 D.kind)).setCell ⟨gr, 1, none⟩ (.int .i64 D.id)).setCell ⟨gr, 2, none⟩ (.slice (some ⟨q, 0, none⟩) V c4)).setCell ⟨gr, 3, none⟩ (.slice S.sn.a S.sn.n S.sn.c)).setCell ⟨gr, 4, none⟩ (.int .i64 D.tick)).setCell ⟨gr, 5, none⟩ (.slice S.cookie.a S.cookie.n S.cookie.c)).setCell ⟨gr, 6, none⟩ (.slice S.proof.a S.proof.n S.proof.c)).setCell ⟨gr, 7, none⟩ (.int .i64 D.epoch)).setCell ⟨gr, 8, none⟩ (.int .i64 D.seq)).setCell ⟨gr, 9, none⟩ (.slice S.body.a S.body.n S.body.c)).setCell ⟨gr, 10, none⟩ (.slice S.tag.a S.tag.n S.tag.c)).heap.size) (by have := HG.out; omega) (Nat.le_trans (Nat.le_of_lt LGF.out) KK.size)
  have NE := (NS.out.carry KK (.inr (by have := HG.out; omega))).mono (lo' := w.heap.size) (hi' := ((((((((((((z).setCell ⟨gr, 0, none⟩ (.int .i64 D.kind)).setCell ⟨gr, 1, none⟩ (.int .i64 D.id)).setCell ⟨gr, 2, none⟩ (.slice (some ⟨q, 0, none⟩) V c4)).setCell ⟨gr, 3, none⟩ (.slice S.sn.a S.sn.n S.sn.c)).setCell ⟨gr, 4, none⟩ (.int .i64 D.tick)).setCell ⟨gr, 5, none⟩ (.slice S.cookie.a S.cookie.n S.cookie.c)).setCell ⟨gr, 6, none⟩ (.slice S.proof.a S.proof.n S.proof.c)).setCell ⟨gr, 7, none⟩ (.int .i64 D.epoch)).setCell ⟨gr, 8, none⟩ (.int .i64 D.seq)).setCell ⟨gr, 9, none⟩ (.slice S.body.a S.body.n S.body.c)).setCell ⟨gr, 10, none⟩ (.slice S.tag.a S.tag.n S.tag.c)).heap.size) (by have := HG.out; omega) KK.size
  exact ret_any rfl rfl KE rfl (D := { D with cn := l4 }) (S := { S with cn := ⟨some ⟨q, 0, none⟩, V, c4⟩ }) ⟨NE, IE.sn, IE.cookie, IE.proof, IE.body, IE.tag⟩ (Ready_setCell (Ready_setCell (Ready_setCell (Ready_setCell (Ready_setCell (Ready_setCell (Ready_setCell (Ready_setCell (Ready_setCell (Ready_setCell (Ready_setCell (Rz.out) _ _ (NP HG.out) (NW HG.out)) _ _ (NP HG.out) (NW HG.out)) _ _ (NP HG.out) (NW HG.out)) _ _ (NP HG.out) (NW HG.out)) _ _ (NP HG.out) (NW HG.out)) _ _ (NP HG.out) (NW HG.out)) _ _ (NP HG.out) (NW HG.out)) _ _ (NP HG.out) (NW HG.out)) _ _ (NP HG.out) (NW HG.out)) _ _ (NP HG.out) (NW HG.out)) _ _ (NP HG.out) (NW HG.out)) (But_setCell (But_setCell (But_setCell (But_setCell (But_setCell (But_setCell (But_setCell (But_setCell (But_setCell (But_setCell (But_setCell (Bz.out) _ _ (NZ HG.out)) _ _ (NZ HG.out)) _ _ (NZ HG.out)) _ _ (NZ HG.out)) _ _ (NZ HG.out)) _ _ (NZ HG.out)) _ _ (NZ HG.out)) _ _ (NZ HG.out)) _ _ (NZ HG.out)) _ _ (NZ HG.out)) _ _ (NZ HG.out))
 have e2 : (v == 2) = false := by simpa using k2
 by_cases k3 : v = 3
 ·
  subst k3
  clear va vb k0 e0 k1 e1 k2 e2
  have KFx2 := KF2
  have OWx2 := OW2
  have KRx2 := KR2
  have Bx2 := B2
  have Rx2 := R2
  clear KF2 OW2 KR2 B2 R2
  obtain ⟨xi, hxi⟩ : ∃ xi, x2.alloc (.cells #[.int .i64 0, .int .i64 11, .int .i64 12, .int .i64 13] 3) = xi := ⟨_, rfl⟩
  have HI := hid (hxi)
  have RI : Hid (Ready W0 a len cap l p xi) := by rw [← hxi]; exact Rx2.out.alloc _
  have BI : Hid (But p x2 xi) := by rw [← hxi]; exact (But.refl p x2).alloc _
  have LI : Hid (IntsAt xi x2.heap.size [0, 11, 12, 13]) := by rw [← hxi]; exact ints_new x2 [0, 11, 12, 13]
  have NI : Hid (x2.heap.size ≠ p) := by have := Rx2.out.hc.lt; show _ ≠ _; omega
  clear hxi
  go_wp2_with fail
  rw [HI.out]
  clear HI
  refine (intOfList RI.out x2.heap.size 4 [0, 11, 12, 13] rfl LI.out NI.out (by omega) (by omega)).mono ?_
  rintro e x3 ⟨u, rfl, um, ry, by0⟩
  have Rx3 := hid (ry)
  have by1 : But p x2 x3 := BI.out.trans by0
  clear ry by0 RI BI LI NI Rx2
  have KPx3 : Kept p (p + 1) x2 x3 := Kept.of_grown by1
  have Bx3 := hid (Bx2.out.trans by1)
  have KFx3 := hid (KFx2.out.keep (KPx3.block gf KFx2.out.lt (by have := HG.out; omega)))
  have OWx3 := hid (OWx2.out.carry KPx3 (.inr (by have := HG.out; omega)))
  have KRx3 := hid (KRx2.out.keep (KPx3.block gr KRx2.out.lt (by have := HG.out; omega)))
  clear KPx3 by1 Bx2 KFx2 OWx2 KRx2
  simp only [List.mem_cons, List.mem_nil_iff, or_false] at um
  obtain ⟨V, hV⟩ := Int.eq_ofNat_of_zero_le (show 0 ≤ u by omega)
  subst hV
  have hV : V ≤ 1000 := by omega
  clear um
  go_wp2_with fail
  refine (bytesOf Rx3.out V hV).mono ?_
  rintro e x4 ⟨q, c4, l4, rfl, el, hb4, kq, w4, r4, b4⟩
  have Rx4 := hid (r4)
  have GQ : Hid (gf < q) := Nat.lt_of_lt_of_le KFx3.out.lt kq
  have W4 : Hid (Row x4 q c4 l4 ∧ V = l4.length ∧ Bytes l4) := ⟨w4, el, hb4⟩
  clear r4 Rx3 kq w4 el hb4
  have KPx4 : Kept p (p + 1) x3 x4 := Kept.of_grown b4
  have Bx4 := hid (Bx3.out.trans b4)
  have KFx4 := hid (KFx3.out.keep (KPx4.block gf KFx3.out.lt (by have := HG.out; omega)))
  have OWx4 := hid (OWx3.out.carry KPx4 (.inr (by have := HG.out; omega)))
  have KRx4 := hid (KRx3.out.keep (KPx4.block gr KRx3.out.lt (by have := HG.out; omega)))
  clear KPx4 b4 Bx3 KFx3 OWx3 KRx3
  have co : x4.cell? ⟨gf, 3, none⟩ = some (.slice S.sn.a S.sn.n S.sn.c) := KFx4.out.cell 3 rfl
  have fo := KFx4.out.frozen 3
  obtain ⟨z, hz⟩ : ∃ z, x4.setCell ⟨gf, 3, none⟩ (.slice (some ⟨q, 0, none⟩) V c4) = z := ⟨_, rfl⟩
  have HZ := hid (hz)
  have KFz : Hid (Blk z gf 25 [.int .i64 D.kind, .int .i64 D.id, .slice S.cn.a S.cn.n S.cn.c, .slice (some ⟨q, 0, none⟩) V c4, .int .i64 D.tick, .slice S.cookie.a S.cookie.n S.cookie.c, .slice S.proof.a S.proof.n S.proof.c, .int .i64 D.epoch, .int .i64 D.seq, .slice S.body.a S.body.n S.body.c, .slice S.tag.a S.tag.n S.tag.c]) := by rw [← hz]; exact KFx4.out.set 3 _ (by simp [maxLen])
  have OWz : Hid (FrIn z lo gf S D) := by rw [← hz]; exact OWx4.out.carry (Kept.setCell x4 gf 3 _) (.inl (Nat.le_refl _))
  have KRz : Hid (Blk z gr 25 [.int .i64 0, .int .i64 0, .slice none 0 0, .slice none 0 0, .int .i64 0, .slice none 0 0, .slice none 0 0, .int .i64 0, .int .i64 0, .slice none 0 0, .slice none 0 0]) := by rw [← hz]; exact KRx4.out.other (by show gr ≠ gf; have := HG.out; omega) _
  have Bz : Hid (But p w z) := by rw [← hz]; exact But_setCell Bx4.out _ _ (by show w.heap.size ≤ gf; have := HG.out; omega)
  have Rz : Hid (Ready W0 a len cap l p z) := by rw [← hz]; exact Ready_setCell Rx4.out _ _ (by show gf ≠ p; have := HG.out; omega) (by show W0.heap.size ≤ gf; have := HG.out; omega)
  have NS : Hid (SOwn z (gf + 1) z.heap.size ⟨some ⟨q, 0, none⟩, V, c4⟩ l4) := by
   have r : Row z q c4 l4 := by rw [← hz]; exact W4.out.1.keep (Below.heap_setCell x4 _ _ q (by show q ≠ gf; have := GQ.out; omega))
   exact SOwn.row r W4.out.2.1 W4.out.2.2 GQ.out r.lt
  clear hz KFx4 OWx4 KRx4 Bx4 Rx4 W4
  go_upto_region 25 with fail
  rw [HZ.out]
  clear co fo HZ
  have zc0 := KRz.out.cell 0 rfl
  have zf0 := KRz.out.frozen 0
  have zo0 : z.cell? ⟨gf, 0, none⟩ = some (.int .i64 D.kind) := KFz.out.cell 0 rfl
  have zc1 := KRz.out.cell 1 rfl
  have zf1 := KRz.out.frozen 1
  have zo1 : z.cell? ⟨gf, 1, none⟩ = some (.int .i64 D.id) := KFz.out.cell 1 rfl
  have zc2 := KRz.out.cell 2 rfl
  have zf2 := KRz.out.frozen 2
  have zo2 : z.cell? ⟨gf, 2, none⟩ = some (.slice S.cn.a S.cn.n S.cn.c) := KFz.out.cell 2 rfl
  have zc3 := KRz.out.cell 3 rfl
  have zf3 := KRz.out.frozen 3
  have zo3 : z.cell? ⟨gf, 3, none⟩ = some (.slice (some ⟨q, 0, none⟩) V c4) := KFz.out.cell 3 rfl
  have zc4 := KRz.out.cell 4 rfl
  have zf4 := KRz.out.frozen 4
  have zo4 : z.cell? ⟨gf, 4, none⟩ = some (.int .i64 D.tick) := KFz.out.cell 4 rfl
  have zc5 := KRz.out.cell 5 rfl
  have zf5 := KRz.out.frozen 5
  have zo5 : z.cell? ⟨gf, 5, none⟩ = some (.slice S.cookie.a S.cookie.n S.cookie.c) := KFz.out.cell 5 rfl
  have zc6 := KRz.out.cell 6 rfl
  have zf6 := KRz.out.frozen 6
  have zo6 : z.cell? ⟨gf, 6, none⟩ = some (.slice S.proof.a S.proof.n S.proof.c) := KFz.out.cell 6 rfl
  have zc7 := KRz.out.cell 7 rfl
  have zf7 := KRz.out.frozen 7
  have zo7 : z.cell? ⟨gf, 7, none⟩ = some (.int .i64 D.epoch) := KFz.out.cell 7 rfl
  have zc8 := KRz.out.cell 8 rfl
  have zf8 := KRz.out.frozen 8
  have zo8 : z.cell? ⟨gf, 8, none⟩ = some (.int .i64 D.seq) := KFz.out.cell 8 rfl
  have zc9 := KRz.out.cell 9 rfl
  have zf9 := KRz.out.frozen 9
  have zo9 : z.cell? ⟨gf, 9, none⟩ = some (.slice S.body.a S.body.n S.body.c) := KFz.out.cell 9 rfl
  have zc10 := KRz.out.cell 10 rfl
  have zf10 := KRz.out.frozen 10
  have zo10 : z.cell? ⟨gf, 10, none⟩ = some (.slice S.tag.a S.tag.n S.tag.c) := KFz.out.cell 10 rfl
  have ne1 : gr ≠ gf := by have := HG.out; omega
  have ne2 : gf ≠ gr := by have := HG.out; omega
  have LGF : Hid (gf < z.heap.size) := KFz.out.lt
  go_wp2
  have KE : Blk ((((((((((((z).setCell ⟨gr, 0, none⟩ (.int .i64 D.kind)).setCell ⟨gr, 1, none⟩ (.int .i64 D.id)).setCell ⟨gr, 2, none⟩ (.slice S.cn.a S.cn.n S.cn.c)).setCell ⟨gr, 3, none⟩ (.slice (some ⟨q, 0, none⟩) V c4)).setCell ⟨gr, 4, none⟩ (.int .i64 D.tick)).setCell ⟨gr, 5, none⟩ (.slice S.cookie.a S.cookie.n S.cookie.c)).setCell ⟨gr, 6, none⟩ (.slice S.proof.a S.proof.n S.proof.c)).setCell ⟨gr, 7, none⟩ (.int .i64 D.epoch)).setCell ⟨gr, 8, none⟩ (.int .i64 D.seq)).setCell ⟨gr, 9, none⟩ (.slice S.body.a S.body.n S.body.c)).setCell ⟨gr, 10, none⟩ (.slice S.tag.a S.tag.n S.tag.c)) gr 25 [.int .i64 D.kind, .int .i64 D.id, .slice S.cn.a S.cn.n S.cn.c, .slice (some ⟨q, 0, none⟩) V c4, .int .i64 D.tick, .slice S.cookie.a S.cookie.n S.cookie.c, .slice S.proof.a S.proof.n S.proof.c, .int .i64 D.epoch, .int .i64 D.seq, .slice S.body.a S.body.n S.body.c, .slice S.tag.a S.tag.n S.tag.c] := (((((((((((KRz.out).set 0 _ (by simp [maxLen])).set 1 _ (by simp [maxLen])).set 2 _ (by simp [maxLen])).set 3 _ (by simp [maxLen])).set 4 _ (by simp [maxLen])).set 5 _ (by simp [maxLen])).set 6 _ (by simp [maxLen])).set 7 _ (by simp [maxLen])).set 8 _ (by simp [maxLen])).set 9 _ (by simp [maxLen])).set 10 _ (by simp [maxLen])
  have KK : Kept gr (gr + 1) z ((((((((((((z).setCell ⟨gr, 0, none⟩ (.int .i64 D.kind)).setCell ⟨gr, 1, none⟩ (.int .i64 D.id)).setCell ⟨gr, 2, none⟩ (.slice S.cn.a S.cn.n S.cn.c)).setCell ⟨gr, 3, none⟩ (.slice (some ⟨q, 0, none⟩) V c4)).setCell ⟨gr, 4, none⟩ (.int .i64 D.tick)).setCell ⟨gr, 5, none⟩ (.slice S.cookie.a S.cookie.n S.cookie.c)).setCell ⟨gr, 6, none⟩ (.slice S.proof.a S.proof.n S.proof.c)).setCell ⟨gr, 7, none⟩ (.int .i64 D.epoch)).setCell ⟨gr, 8, none⟩ (.int .i64 D.seq)).setCell ⟨gr, 9, none⟩ (.slice S.body.a S.body.n S.body.c)).setCell ⟨gr, 10, none⟩ (.slice S.tag.a S.tag.n S.tag.c)) := ((((((((((((Kept.refl gr (gr + 1) z)).trans (Kept.setCell _ gr 0 _)).trans (Kept.setCell _ gr 1 _)).trans (Kept.setCell _ gr 2 _)).trans (Kept.setCell _ gr 3 _)).trans (Kept.setCell _ gr 4 _)).trans (Kept.setCell _ gr 5 _)).trans (Kept.setCell _ gr 6 _)).trans (Kept.setCell _ gr 7 _)).trans (Kept.setCell _ gr 8 _)).trans (Kept.setCell _ gr 9 _)).trans (Kept.setCell _ gr 10 _)
  have IE := (OWz.out.carry KK (.inr (by have := HG.out; omega))).mono (lo' := w.heap.size) (hi' := ((((((((((((z).setCell ⟨gr, 0, none⟩ (.int .i64 D.kind)).setCell ⟨gr, 1, none⟩ (.int .i64 D.id)).setCell ⟨gr, 2, none⟩ (.slice S.cn.a S.cn.n S.cn.c)).setCell ⟨gr, 3, none⟩ (.slice (some ⟨q, 0, none⟩) V c4)).setCell ⟨gr, 4, none⟩ (.int .i64 D.tick)).setCell ⟨gr, 5, none⟩ (.slice S.cookie.a S.cookie.n S.cookie.c)).setCell ⟨gr, 6, none⟩ (.slice S.proof.a S.proof.n S.proof.c)).setCell ⟨gr, 7, none⟩ (.int .i64 D.epoch)).setCell ⟨gr, 8, none⟩ (.int .i64 D.seq)).setCell ⟨gr, 9, none⟩ (.slice S.body.a S.body.n S.body.c)).setCell ⟨gr, 10, none⟩ (.slice S.tag.a S.tag.n S.tag.c)).heap.size) (by have := HG.out; omega) (Nat.le_trans (Nat.le_of_lt LGF.out) KK.size)
  have NE := (NS.out.carry KK (.inr (by have := HG.out; omega))).mono (lo' := w.heap.size) (hi' := ((((((((((((z).setCell ⟨gr, 0, none⟩ (.int .i64 D.kind)).setCell ⟨gr, 1, none⟩ (.int .i64 D.id)).setCell ⟨gr, 2, none⟩ (.slice S.cn.a S.cn.n S.cn.c)).setCell ⟨gr, 3, none⟩ (.slice (some ⟨q, 0, none⟩) V c4)).setCell ⟨gr, 4, none⟩ (.int .i64 D.tick)).setCell ⟨gr, 5, none⟩ (.slice S.cookie.a S.cookie.n S.cookie.c)).setCell ⟨gr, 6, none⟩ (.slice S.proof.a S.proof.n S.proof.c)).setCell ⟨gr, 7, none⟩ (.int .i64 D.epoch)).setCell ⟨gr, 8, none⟩ (.int .i64 D.seq)).setCell ⟨gr, 9, none⟩ (.slice S.body.a S.body.n S.body.c)).setCell ⟨gr, 10, none⟩ (.slice S.tag.a S.tag.n S.tag.c)).heap.size) (by have := HG.out; omega) KK.size
  exact ret_any rfl rfl KE rfl (D := { D with sn := l4 }) (S := { S with sn := ⟨some ⟨q, 0, none⟩, V, c4⟩ }) ⟨IE.cn, NE, IE.cookie, IE.proof, IE.body, IE.tag⟩ (Ready_setCell (Ready_setCell (Ready_setCell (Ready_setCell (Ready_setCell (Ready_setCell (Ready_setCell (Ready_setCell (Ready_setCell (Ready_setCell (Ready_setCell (Rz.out) _ _ (NP HG.out) (NW HG.out)) _ _ (NP HG.out) (NW HG.out)) _ _ (NP HG.out) (NW HG.out)) _ _ (NP HG.out) (NW HG.out)) _ _ (NP HG.out) (NW HG.out)) _ _ (NP HG.out) (NW HG.out)) _ _ (NP HG.out) (NW HG.out)) _ _ (NP HG.out) (NW HG.out)) _ _ (NP HG.out) (NW HG.out)) _ _ (NP HG.out) (NW HG.out)) _ _ (NP HG.out) (NW HG.out)) (But_setCell (But_setCell (But_setCell (But_setCell (But_setCell (But_setCell (But_setCell (But_setCell (But_setCell (But_setCell (But_setCell (Bz.out) _ _ (NZ HG.out)) _ _ (NZ HG.out)) _ _ (NZ HG.out)) _ _ (NZ HG.out)) _ _ (NZ HG.out)) _ _ (NZ HG.out)) _ _ (NZ HG.out)) _ _ (NZ HG.out)) _ _ (NZ HG.out)) _ _ (NZ HG.out)) _ _ (NZ HG.out))
 have e3 : (v == 3) = false := by simpa using k3
 by_cases k4 : v = 4
 ·
  subst k4
  clear va vb k0 e0 k1 e1 k2 e2 k3 e3
  have KFx2 := KF2
  have OWx2 := OW2
  have KRx2 := KR2
  have Bx2 := B2
  have Rx2 := R2
  clear KF2 OW2 KR2 B2 R2
  obtain ⟨xi, hxi⟩ : ∃ xi, x2.alloc (.cells #[.int .i64 (-1), .int .i64 0, .int .i64 1000001] 3) = xi := ⟨_, rfl⟩
  have HI := hid (hxi)
  have RI : Hid (Ready W0 a len cap l p xi) := by rw [← hxi]; exact Rx2.out.alloc _
  have BI : Hid (But p x2 xi) := by rw [← hxi]; exact (But.refl p x2).alloc _
  have LI : Hid (IntsAt xi x2.heap.size [-1, 0, 1000001]) := by rw [← hxi]; exact ints_new x2 [-1, 0, 1000001]
  have NI : Hid (x2.heap.size ≠ p) := by have := Rx2.out.hc.lt; show _ ≠ _; omega
  clear hxi
  go_wp2_with fail
  rw [HI.out]
  clear HI
  refine (intOfList RI.out x2.heap.size 3 [-1, 0, 1000001] rfl LI.out NI.out (by omega) (by omega)).mono ?_
  rintro e x3 ⟨u, rfl, um, ry, by0⟩
  have Rx3 := hid (ry)
  have by1 : But p x2 x3 := BI.out.trans by0
  clear ry by0 RI BI LI NI Rx2
  have KPx3 : Kept p (p + 1) x2 x3 := Kept.of_grown by1
  have Bx3 := hid (Bx2.out.trans by1)
  have KFx3 := hid (KFx2.out.keep (KPx3.block gf KFx2.out.lt (by have := HG.out; omega)))
  have OWx3 := hid (OWx2.out.carry KPx3 (.inr (by have := HG.out; omega)))
  have KRx3 := hid (KRx2.out.keep (KPx3.block gr KRx2.out.lt (by have := HG.out; omega)))
  clear KPx3 by1 Bx2 KFx2 OWx2 KRx2
  clear um
  have co : x3.cell? ⟨gf, 4, none⟩ = some (.int .i64 D.tick) := KFx3.out.cell 4 rfl
  have fo := KFx3.out.frozen 4
  obtain ⟨z, hz⟩ : ∃ z, x3.setCell ⟨gf, 4, none⟩ (.int .i64 u) = z := ⟨_, rfl⟩
  have HZ := hid (hz)
  have KFz : Hid (Blk z gf 25 [.int .i64 D.kind, .int .i64 D.id, .slice S.cn.a S.cn.n S.cn.c, .slice S.sn.a S.sn.n S.sn.c, .int .i64 u, .slice S.cookie.a S.cookie.n S.cookie.c, .slice S.proof.a S.proof.n S.proof.c, .int .i64 D.epoch, .int .i64 D.seq, .slice S.body.a S.body.n S.body.c, .slice S.tag.a S.tag.n S.tag.c]) := by rw [← hz]; exact KFx3.out.set 4 _ (by simp [maxLen])
  have OWz : Hid (FrIn z lo gf S D) := by rw [← hz]; exact OWx3.out.carry (Kept.setCell x3 gf 4 _) (.inl (Nat.le_refl _))
  have KRz : Hid (Blk z gr 25 [.int .i64 0, .int .i64 0, .slice none 0 0, .slice none 0 0, .int .i64 0, .slice none 0 0, .slice none 0 0, .int .i64 0, .int .i64 0, .slice none 0 0, .slice none 0 0]) := by rw [← hz]; exact KRx3.out.other (by show gr ≠ gf; have := HG.out; omega) _
  have Bz : Hid (But p w z) := by rw [← hz]; exact But_setCell Bx3.out _ _ (by show w.heap.size ≤ gf; have := HG.out; omega)
  have Rz : Hid (Ready W0 a len cap l p z) := by rw [← hz]; exact Ready_setCell Rx3.out _ _ (by show gf ≠ p; have := HG.out; omega) (by show W0.heap.size ≤ gf; have := HG.out; omega)
  clear hz KFx3 OWx3 KRx3 Bx3 Rx3
  go_upto_region 25 with fail
  rw [HZ.out]
  clear co fo HZ
  have zc0 := KRz.out.cell 0 rfl
  have zf0 := KRz.out.frozen 0
  have zo0 : z.cell? ⟨gf, 0, none⟩ = some (.int .i64 D.kind) := KFz.out.cell 0 rfl
  have zc1 := KRz.out.cell 1 rfl
  have zf1 := KRz.out.frozen 1
  have zo1 : z.cell? ⟨gf, 1, none⟩ = some (.int .i64 D.id) := KFz.out.cell 1 rfl
  have zc2 := KRz.out.cell 2 rfl
  have zf2 := KRz.out.frozen 2
  have zo2 : z.cell? ⟨gf, 2, none⟩ = some (.slice S.cn.a S.cn.n S.cn.c) := KFz.out.cell 2 rfl
  have zc3 := KRz.out.cell 3 rfl
  have zf3 := KRz.out.frozen 3
  have zo3 : z.cell? ⟨gf, 3, none⟩ = some (.slice S.sn.a S.sn.n S.sn.c) := KFz.out.cell 3 rfl
  have zc4 := KRz.out.cell 4 rfl
  have zf4 := KRz.out.frozen 4
  have zo4 : z.cell? ⟨gf, 4, none⟩ = some (.int .i64 u) := KFz.out.cell 4 rfl
  have zc5 := KRz.out.cell 5 rfl
  have zf5 := KRz.out.frozen 5
  have zo5 : z.cell? ⟨gf, 5, none⟩ = some (.slice S.cookie.a S.cookie.n S.cookie.c) := KFz.out.cell 5 rfl
  have zc6 := KRz.out.cell 6 rfl
  have zf6 := KRz.out.frozen 6
  have zo6 : z.cell? ⟨gf, 6, none⟩ = some (.slice S.proof.a S.proof.n S.proof.c) := KFz.out.cell 6 rfl
  have zc7 := KRz.out.cell 7 rfl
  have zf7 := KRz.out.frozen 7
  have zo7 : z.cell? ⟨gf, 7, none⟩ = some (.int .i64 D.epoch) := KFz.out.cell 7 rfl
  have zc8 := KRz.out.cell 8 rfl
  have zf8 := KRz.out.frozen 8
  have zo8 : z.cell? ⟨gf, 8, none⟩ = some (.int .i64 D.seq) := KFz.out.cell 8 rfl
  have zc9 := KRz.out.cell 9 rfl
  have zf9 := KRz.out.frozen 9
  have zo9 : z.cell? ⟨gf, 9, none⟩ = some (.slice S.body.a S.body.n S.body.c) := KFz.out.cell 9 rfl
  have zc10 := KRz.out.cell 10 rfl
  have zf10 := KRz.out.frozen 10
  have zo10 : z.cell? ⟨gf, 10, none⟩ = some (.slice S.tag.a S.tag.n S.tag.c) := KFz.out.cell 10 rfl
  have ne1 : gr ≠ gf := by have := HG.out; omega
  have ne2 : gf ≠ gr := by have := HG.out; omega
  have LGF : Hid (gf < z.heap.size) := KFz.out.lt
  go_wp2
  have KE : Blk ((((((((((((z).setCell ⟨gr, 0, none⟩ (.int .i64 D.kind)).setCell ⟨gr, 1, none⟩ (.int .i64 D.id)).setCell ⟨gr, 2, none⟩ (.slice S.cn.a S.cn.n S.cn.c)).setCell ⟨gr, 3, none⟩ (.slice S.sn.a S.sn.n S.sn.c)).setCell ⟨gr, 4, none⟩ (.int .i64 u)).setCell ⟨gr, 5, none⟩ (.slice S.cookie.a S.cookie.n S.cookie.c)).setCell ⟨gr, 6, none⟩ (.slice S.proof.a S.proof.n S.proof.c)).setCell ⟨gr, 7, none⟩ (.int .i64 D.epoch)).setCell ⟨gr, 8, none⟩ (.int .i64 D.seq)).setCell ⟨gr, 9, none⟩ (.slice S.body.a S.body.n S.body.c)).setCell ⟨gr, 10, none⟩ (.slice S.tag.a S.tag.n S.tag.c)) gr 25 [.int .i64 D.kind, .int .i64 D.id, .slice S.cn.a S.cn.n S.cn.c, .slice S.sn.a S.sn.n S.sn.c, .int .i64 u, .slice S.cookie.a S.cookie.n S.cookie.c, .slice S.proof.a S.proof.n S.proof.c, .int .i64 D.epoch, .int .i64 D.seq, .slice S.body.a S.body.n S.body.c, .slice S.tag.a S.tag.n S.tag.c] := (((((((((((KRz.out).set 0 _ (by simp [maxLen])).set 1 _ (by simp [maxLen])).set 2 _ (by simp [maxLen])).set 3 _ (by simp [maxLen])).set 4 _ (by simp [maxLen])).set 5 _ (by simp [maxLen])).set 6 _ (by simp [maxLen])).set 7 _ (by simp [maxLen])).set 8 _ (by simp [maxLen])).set 9 _ (by simp [maxLen])).set 10 _ (by simp [maxLen])
  have KK : Kept gr (gr + 1) z ((((((((((((z).setCell ⟨gr, 0, none⟩ (.int .i64 D.kind)).setCell ⟨gr, 1, none⟩ (.int .i64 D.id)).setCell ⟨gr, 2, none⟩ (.slice S.cn.a S.cn.n S.cn.c)).setCell ⟨gr, 3, none⟩ (.slice S.sn.a S.sn.n S.sn.c)).setCell ⟨gr, 4, none⟩ (.int .i64 u)).setCell ⟨gr, 5, none⟩ (.slice S.cookie.a S.cookie.n S.cookie.c)).setCell ⟨gr, 6, none⟩ (.slice S.proof.a S.proof.n S.proof.c)).setCell ⟨gr, 7, none⟩ (.int .i64 D.epoch)).setCell ⟨gr, 8, none⟩ (.int .i64 D.seq)).setCell ⟨gr, 9, none⟩ (.slice S.body.a S.body.n S.body.c)).setCell ⟨gr, 10, none⟩ (.slice S.tag.a S.tag.n S.tag.c)) := ((((((((((((Kept.refl gr (gr + 1) z)).trans (Kept.setCell _ gr 0 _)).trans (Kept.setCell _ gr 1 _)).trans (Kept.setCell _ gr 2 _)).trans (Kept.setCell _ gr 3 _)).trans (Kept.setCell _ gr 4 _)).trans (Kept.setCell _ gr 5 _)).trans (Kept.setCell _ gr 6 _)).trans (Kept.setCell _ gr 7 _)).trans (Kept.setCell _ gr 8 _)).trans (Kept.setCell _ gr 9 _)).trans (Kept.setCell _ gr 10 _)
  have IE := (OWz.out.carry KK (.inr (by have := HG.out; omega))).mono (lo' := w.heap.size) (hi' := ((((((((((((z).setCell ⟨gr, 0, none⟩ (.int .i64 D.kind)).setCell ⟨gr, 1, none⟩ (.int .i64 D.id)).setCell ⟨gr, 2, none⟩ (.slice S.cn.a S.cn.n S.cn.c)).setCell ⟨gr, 3, none⟩ (.slice S.sn.a S.sn.n S.sn.c)).setCell ⟨gr, 4, none⟩ (.int .i64 u)).setCell ⟨gr, 5, none⟩ (.slice S.cookie.a S.cookie.n S.cookie.c)).setCell ⟨gr, 6, none⟩ (.slice S.proof.a S.proof.n S.proof.c)).setCell ⟨gr, 7, none⟩ (.int .i64 D.epoch)).setCell ⟨gr, 8, none⟩ (.int .i64 D.seq)).setCell ⟨gr, 9, none⟩ (.slice S.body.a S.body.n S.body.c)).setCell ⟨gr, 10, none⟩ (.slice S.tag.a S.tag.n S.tag.c)).heap.size) (by have := HG.out; omega) (Nat.le_trans (Nat.le_of_lt LGF.out) KK.size)
  exact ret_any rfl rfl KE rfl (D := { D with tick := u }) (S := S) ⟨IE.cn, IE.sn, IE.cookie, IE.proof, IE.body, IE.tag⟩ (Ready_setCell (Ready_setCell (Ready_setCell (Ready_setCell (Ready_setCell (Ready_setCell (Ready_setCell (Ready_setCell (Ready_setCell (Ready_setCell (Ready_setCell (Rz.out) _ _ (NP HG.out) (NW HG.out)) _ _ (NP HG.out) (NW HG.out)) _ _ (NP HG.out) (NW HG.out)) _ _ (NP HG.out) (NW HG.out)) _ _ (NP HG.out) (NW HG.out)) _ _ (NP HG.out) (NW HG.out)) _ _ (NP HG.out) (NW HG.out)) _ _ (NP HG.out) (NW HG.out)) _ _ (NP HG.out) (NW HG.out)) _ _ (NP HG.out) (NW HG.out)) _ _ (NP HG.out) (NW HG.out)) (But_setCell (But_setCell (But_setCell (But_setCell (But_setCell (But_setCell (But_setCell (But_setCell (But_setCell (But_setCell (But_setCell (Bz.out) _ _ (NZ HG.out)) _ _ (NZ HG.out)) _ _ (NZ HG.out)) _ _ (NZ HG.out)) _ _ (NZ HG.out)) _ _ (NZ HG.out)) _ _ (NZ HG.out)) _ _ (NZ HG.out)) _ _ (NZ HG.out)) _ _ (NZ HG.out)) _ _ (NZ HG.out))
 have e4 : (v == 4) = false := by simpa using k4
 by_cases k5 : v = 5
 ·
  subst k5
  clear va vb k0 e0 k1 e1 k2 e2 k3 e3 k4 e4
  have KFx2 := KF2
  have OWx2 := OW2
  have KRx2 := KR2
  have Bx2 := B2
  have Rx2 := R2
  clear KF2 OW2 KR2 B2 R2
  obtain ⟨xi, hxi⟩ : ∃ xi, x2.alloc (.cells #[.int .i64 0, .int .i64 15, .int .i64 16] 3) = xi := ⟨_, rfl⟩
  have HI := hid (hxi)
  have RI : Hid (Ready W0 a len cap l p xi) := by rw [← hxi]; exact Rx2.out.alloc _
  have BI : Hid (But p x2 xi) := by rw [← hxi]; exact (But.refl p x2).alloc _
  have LI : Hid (IntsAt xi x2.heap.size [0, 15, 16]) := by rw [← hxi]; exact ints_new x2 [0, 15, 16]
  have NI : Hid (x2.heap.size ≠ p) := by have := Rx2.out.hc.lt; show _ ≠ _; omega
  clear hxi
  go_wp2_with fail
  rw [HI.out]
  clear HI
  refine (intOfList RI.out x2.heap.size 3 [0, 15, 16] rfl LI.out NI.out (by omega) (by omega)).mono ?_
  rintro e x3 ⟨u, rfl, um, ry, by0⟩
  have Rx3 := hid (ry)
  have by1 : But p x2 x3 := BI.out.trans by0
  clear ry by0 RI BI LI NI Rx2
  have KPx3 : Kept p (p + 1) x2 x3 := Kept.of_grown by1
  have Bx3 := hid (Bx2.out.trans by1)
  have KFx3 := hid (KFx2.out.keep (KPx3.block gf KFx2.out.lt (by have := HG.out; omega)))
  have OWx3 := hid (OWx2.out.carry KPx3 (.inr (by have := HG.out; omega)))
  have KRx3 := hid (KRx2.out.keep (KPx3.block gr KRx2.out.lt (by have := HG.out; omega)))
  clear KPx3 by1 Bx2 KFx2 OWx2 KRx2
  simp only [List.mem_cons, List.mem_nil_iff, or_false] at um
  obtain ⟨V, hV⟩ := Int.eq_ofNat_of_zero_le (show 0 ≤ u by omega)
  subst hV
  have hV : V ≤ 1000 := by omega
  clear um
  go_wp2_with fail
  refine (bytesOf Rx3.out V hV).mono ?_
  rintro e x4 ⟨q, c4, l4, rfl, el, hb4, kq, w4, r4, b4⟩
  have Rx4 := hid (r4)
  have GQ : Hid (gf < q) := Nat.lt_of_lt_of_le KFx3.out.lt kq
  have W4 : Hid (Row x4 q c4 l4 ∧ V = l4.length ∧ Bytes l4) := ⟨w4, el, hb4⟩
  clear r4 Rx3 kq w4 el hb4
  have KPx4 : Kept p (p + 1) x3 x4 := Kept.of_grown b4
  have Bx4 := hid (Bx3.out.trans b4)
  have KFx4 := hid (KFx3.out.keep (KPx4.block gf KFx3.out.lt (by have := HG.out; omega)))
  have OWx4 := hid (OWx3.out.carry KPx4 (.inr (by have := HG.out; omega)))
  have KRx4 := hid (KRx3.out.keep (KPx4.block gr KRx3.out.lt (by have := HG.out; omega)))
  clear KPx4 b4 Bx3 KFx3 OWx3 KRx3
  have co : x4.cell? ⟨gf, 5, none⟩ = some (.slice S.cookie.a S.cookie.n S.cookie.c) := KFx4.out.cell 5 rfl
  have fo := KFx4.out.frozen 5
  obtain ⟨z, hz⟩ : ∃ z, x4.setCell ⟨gf, 5, none⟩ (.slice (some ⟨q, 0, none⟩) V c4) = z := ⟨_, rfl⟩
  have HZ := hid (hz)
  have KFz : Hid (Blk z gf 25 [.int .i64 D.kind, .int .i64 D.id, .slice S.cn.a S.cn.n S.cn.c, .slice S.sn.a S.sn.n S.sn.c, .int .i64 D.tick, .slice (some ⟨q, 0, none⟩) V c4, .slice S.proof.a S.proof.n S.proof.c, .int .i64 D.epoch, .int .i64 D.seq, .slice S.body.a S.body.n S.body.c, .slice S.tag.a S.tag.n S.tag.c]) := by rw [← hz]; exact KFx4.out.set 5 _ (by simp [maxLen])
  have OWz : Hid (FrIn z lo gf S D) := by rw [← hz]; exact OWx4.out.carry (Kept.setCell x4 gf 5 _) (.inl (Nat.le_refl _))
  have KRz : Hid (Blk z gr 25 [.int .i64 0, .int .i64 0, .slice none 0 0, .slice none 0 0, .int .i64 0, .slice none 0 0, .slice none 0 0, .int .i64 0, .int .i64 0, .slice none 0 0, .slice none 0 0]) := by rw [← hz]; exact KRx4.out.other (by show gr ≠ gf; have := HG.out; omega) _
  have Bz : Hid (But p w z) := by rw [← hz]; exact But_setCell Bx4.out _ _ (by show w.heap.size ≤ gf; have := HG.out; omega)
  have Rz : Hid (Ready W0 a len cap l p z) := by rw [← hz]; exact Ready_setCell Rx4.out _ _ (by show gf ≠ p; have := HG.out; omega) (by show W0.heap.size ≤ gf; have := HG.out; omega)
  have NS : Hid (SOwn z (gf + 1) z.heap.size ⟨some ⟨q, 0, none⟩, V, c4⟩ l4) := by
   have r : Row z q c4 l4 := by rw [← hz]; exact W4.out.1.keep (Below.heap_setCell x4 _ _ q (by show q ≠ gf; have := GQ.out; omega))
   exact SOwn.row r W4.out.2.1 W4.out.2.2 GQ.out r.lt
  clear hz KFx4 OWx4 KRx4 Bx4 Rx4 W4
  go_upto_region 25 with fail
  rw [HZ.out]
  clear co fo HZ
  have zc0 := KRz.out.cell 0 rfl
  have zf0 := KRz.out.frozen 0
  have zo0 : z.cell? ⟨gf, 0, none⟩ = some (.int .i64 D.kind) := KFz.out.cell 0 rfl
  have zc1 := KRz.out.cell 1 rfl
  have zf1 := KRz.out.frozen 1
  have zo1 : z.cell? ⟨gf, 1, none⟩ = some (.int .i64 D.id) := KFz.out.cell 1 rfl
  have zc2 := KRz.out.cell 2 rfl
  have zf2 := KRz.out.frozen 2
  have zo2 : z.cell? ⟨gf, 2, none⟩ = some (.slice S.cn.a S.cn.n S.cn.c) := KFz.out.cell 2 rfl
  have zc3 := KRz.out.cell 3 rfl
  have zf3 := KRz.out.frozen 3
  have zo3 : z.cell? ⟨gf, 3, none⟩ = some (.slice S.sn.a S.sn.n S.sn.c) := KFz.out.cell 3 rfl
  have zc4 := KRz.out.cell 4 rfl
  have zf4 := KRz.out.frozen 4
  have zo4 : z.cell? ⟨gf, 4, none⟩ = some (.int .i64 D.tick) := KFz.out.cell 4 rfl
  have zc5 := KRz.out.cell 5 rfl
  have zf5 := KRz.out.frozen 5
  have zo5 : z.cell? ⟨gf, 5, none⟩ = some (.slice (some ⟨q, 0, none⟩) V c4) := KFz.out.cell 5 rfl
  have zc6 := KRz.out.cell 6 rfl
  have zf6 := KRz.out.frozen 6
  have zo6 : z.cell? ⟨gf, 6, none⟩ = some (.slice S.proof.a S.proof.n S.proof.c) := KFz.out.cell 6 rfl
  have zc7 := KRz.out.cell 7 rfl
  have zf7 := KRz.out.frozen 7
  have zo7 : z.cell? ⟨gf, 7, none⟩ = some (.int .i64 D.epoch) := KFz.out.cell 7 rfl
  have zc8 := KRz.out.cell 8 rfl
  have zf8 := KRz.out.frozen 8
  have zo8 : z.cell? ⟨gf, 8, none⟩ = some (.int .i64 D.seq) := KFz.out.cell 8 rfl
  have zc9 := KRz.out.cell 9 rfl
  have zf9 := KRz.out.frozen 9
  have zo9 : z.cell? ⟨gf, 9, none⟩ = some (.slice S.body.a S.body.n S.body.c) := KFz.out.cell 9 rfl
  have zc10 := KRz.out.cell 10 rfl
  have zf10 := KRz.out.frozen 10
  have zo10 : z.cell? ⟨gf, 10, none⟩ = some (.slice S.tag.a S.tag.n S.tag.c) := KFz.out.cell 10 rfl
  have ne1 : gr ≠ gf := by have := HG.out; omega
  have ne2 : gf ≠ gr := by have := HG.out; omega
  have LGF : Hid (gf < z.heap.size) := KFz.out.lt
  go_wp2
  have KE : Blk ((((((((((((z).setCell ⟨gr, 0, none⟩ (.int .i64 D.kind)).setCell ⟨gr, 1, none⟩ (.int .i64 D.id)).setCell ⟨gr, 2, none⟩ (.slice S.cn.a S.cn.n S.cn.c)).setCell ⟨gr, 3, none⟩ (.slice S.sn.a S.sn.n S.sn.c)).setCell ⟨gr, 4, none⟩ (.int .i64 D.tick)).setCell ⟨gr, 5, none⟩ (.slice (some ⟨q, 0, none⟩) V c4)).setCell ⟨gr, 6, none⟩ (.slice S.proof.a S.proof.n S.proof.c)).setCell ⟨gr, 7, none⟩ (.int .i64 D.epoch)).setCell ⟨gr, 8, none⟩ (.int .i64 D.seq)).setCell ⟨gr, 9, none⟩ (.slice S.body.a S.body.n S.body.c)).setCell ⟨gr, 10, none⟩ (.slice S.tag.a S.tag.n S.tag.c)) gr 25 [.int .i64 D.kind, .int .i64 D.id, .slice S.cn.a S.cn.n S.cn.c, .slice S.sn.a S.sn.n S.sn.c, .int .i64 D.tick, .slice (some ⟨q, 0, none⟩) V c4, .slice S.proof.a S.proof.n S.proof.c, .int .i64 D.epoch, .int .i64 D.seq, .slice S.body.a S.body.n S.body.c, .slice S.tag.a S.tag.n S.tag.c] := (((((((((((KRz.out).set 0 _ (by simp [maxLen])).set 1 _ (by simp [maxLen])).set 2 _ (by simp [maxLen])).set 3 _ (by simp [maxLen])).set 4 _ (by simp [maxLen])).set 5 _ (by simp [maxLen])).set 6 _ (by simp [maxLen])).set 7 _ (by simp [maxLen])).set 8 _ (by simp [maxLen])).set 9 _ (by simp [maxLen])).set 10 _ (by simp [maxLen])
  have KK : Kept gr (gr + 1) z ((((((((((((z).setCell ⟨gr, 0, none⟩ (.int .i64 D.kind)).setCell ⟨gr, 1, none⟩ (.int .i64 D.id)).setCell ⟨gr, 2, none⟩ (.slice S.cn.a S.cn.n S.cn.c)).setCell ⟨gr, 3, none⟩ (.slice S.sn.a S.sn.n S.sn.c)).setCell ⟨gr, 4, none⟩ (.int .i64 D.tick)).setCell ⟨gr, 5, none⟩ (.slice (some ⟨q, 0, none⟩) V c4)).setCell ⟨gr, 6, none⟩ (.slice S.proof.a S.proof.n S.proof.c)).setCell ⟨gr, 7, none⟩ (.int .i64 D.epoch)).setCell ⟨gr, 8, none⟩ (.int .i64 D.seq)).setCell ⟨gr, 9, none⟩ (.slice S.body.a S.body.n S.body.c)).setCell ⟨gr, 10, none⟩ (.slice S.tag.a S.tag.n S.tag.c)) := ((((((((((((Kept.refl gr (gr + 1) z)).trans (Kept.setCell _ gr 0 _)).trans (Kept.setCell _ gr 1 _)).trans (Kept.setCell _ gr 2 _)).trans (Kept.setCell _ gr 3 _)).trans (Kept.setCell _ gr 4 _)).trans (Kept.setCell _ gr 5 _)).trans (Kept.setCell _ gr 6 _)).trans (Kept.setCell _ gr 7 _)).trans (Kept.setCell _ gr 8 _)).trans (Kept.setCell _ gr 9 _)).trans (Kept.setCell _ gr 10 _)
  have IE := (OWz.out.carry KK (.inr (by have := HG.out; omega))).mono (lo' := w.heap.size) (hi' := ((((((((((((z).setCell ⟨gr, 0, none⟩ (.int .i64 D.kind)).setCell ⟨gr, 1, none⟩ (.int .i64 D.id)).setCell ⟨gr, 2, none⟩ (.slice S.cn.a S.cn.n S.cn.c)).setCell ⟨gr, 3, none⟩ (.slice S.sn.a S.sn.n S.sn.c)).setCell ⟨gr, 4, none⟩ (.int .i64 D.tick)).setCell ⟨gr, 5, none⟩ (.slice (some ⟨q, 0, none⟩) V c4)).setCell ⟨gr, 6, none⟩ (.slice S.proof.a S.proof.n S.proof.c)).setCell ⟨gr, 7, none⟩ (.int .i64 D.epoch)).setCell ⟨gr, 8, none⟩ (.int .i64 D.seq)).setCell ⟨gr, 9, none⟩ (.slice S.body.a S.body.n S.body.c)).setCell ⟨gr, 10, none⟩ (.slice S.tag.a S.tag.n S.tag.c)).heap.size) (by have := HG.out; omega) (Nat.le_trans (Nat.le_of_lt LGF.out) KK.size)
  have NE := (NS.out.carry KK (.inr (by have := HG.out; omega))).mono (lo' := w.heap.size) (hi' := ((((((((((((z).setCell ⟨gr, 0, none⟩ (.int .i64 D.kind)).setCell ⟨gr, 1, none⟩ (.int .i64 D.id)).setCell ⟨gr, 2, none⟩ (.slice S.cn.a S.cn.n S.cn.c)).setCell ⟨gr, 3, none⟩ (.slice S.sn.a S.sn.n S.sn.c)).setCell ⟨gr, 4, none⟩ (.int .i64 D.tick)).setCell ⟨gr, 5, none⟩ (.slice (some ⟨q, 0, none⟩) V c4)).setCell ⟨gr, 6, none⟩ (.slice S.proof.a S.proof.n S.proof.c)).setCell ⟨gr, 7, none⟩ (.int .i64 D.epoch)).setCell ⟨gr, 8, none⟩ (.int .i64 D.seq)).setCell ⟨gr, 9, none⟩ (.slice S.body.a S.body.n S.body.c)).setCell ⟨gr, 10, none⟩ (.slice S.tag.a S.tag.n S.tag.c)).heap.size) (by have := HG.out; omega) KK.size
  exact ret_any rfl rfl KE rfl (D := { D with cookie := l4 }) (S := { S with cookie := ⟨some ⟨q, 0, none⟩, V, c4⟩ }) ⟨IE.cn, IE.sn, NE, IE.proof, IE.body, IE.tag⟩ (Ready_setCell (Ready_setCell (Ready_setCell (Ready_setCell (Ready_setCell (Ready_setCell (Ready_setCell (Ready_setCell (Ready_setCell (Ready_setCell (Ready_setCell (Rz.out) _ _ (NP HG.out) (NW HG.out)) _ _ (NP HG.out) (NW HG.out)) _ _ (NP HG.out) (NW HG.out)) _ _ (NP HG.out) (NW HG.out)) _ _ (NP HG.out) (NW HG.out)) _ _ (NP HG.out) (NW HG.out)) _ _ (NP HG.out) (NW HG.out)) _ _ (NP HG.out) (NW HG.out)) _ _ (NP HG.out) (NW HG.out)) _ _ (NP HG.out) (NW HG.out)) _ _ (NP HG.out) (NW HG.out)) (But_setCell (But_setCell (But_setCell (But_setCell (But_setCell (But_setCell (But_setCell (But_setCell (But_setCell (But_setCell (But_setCell (Bz.out) _ _ (NZ HG.out)) _ _ (NZ HG.out)) _ _ (NZ HG.out)) _ _ (NZ HG.out)) _ _ (NZ HG.out)) _ _ (NZ HG.out)) _ _ (NZ HG.out)) _ _ (NZ HG.out)) _ _ (NZ HG.out)) _ _ (NZ HG.out)) _ _ (NZ HG.out))
 have e5 : (v == 5) = false := by simpa using k5
 by_cases k6 : v = 6
 ·
  subst k6
  clear va vb k0 e0 k1 e1 k2 e2 k3 e3 k4 e4 k5 e5
  have KFx2 := KF2
  have OWx2 := OW2
  have KRx2 := KR2
  have Bx2 := B2
  have Rx2 := R2
  clear KF2 OW2 KR2 B2 R2
  obtain ⟨xi, hxi⟩ : ∃ xi, x2.alloc (.cells #[.int .i64 0, .int .i64 15, .int .i64 16] 3) = xi := ⟨_, rfl⟩
  have HI := hid (hxi)
  have RI : Hid (Ready W0 a len cap l p xi) := by rw [← hxi]; exact Rx2.out.alloc _
  have BI : Hid (But p x2 xi) := by rw [← hxi]; exact (But.refl p x2).alloc _
  have LI : Hid (IntsAt xi x2.heap.size [0, 15, 16]) := by rw [← hxi]; exact ints_new x2 [0, 15, 16]
  have NI : Hid (x2.heap.size ≠ p) := by have := Rx2.out.hc.lt; show _ ≠ _; omega
  clear hxi
  go_wp2_with fail
  rw [HI.out]
  clear HI
  refine (intOfList RI.out x2.heap.size 3 [0, 15, 16] rfl LI.out NI.out (by omega) (by omega)).mono ?_
  rintro e x3 ⟨u, rfl, um, ry, by0⟩
  have Rx3 := hid (ry)
  have by1 : But p x2 x3 := BI.out.trans by0
  clear ry by0 RI BI LI NI Rx2
  have KPx3 : Kept p (p + 1) x2 x3 := Kept.of_grown by1
  have Bx3 := hid (Bx2.out.trans by1)
  have KFx3 := hid (KFx2.out.keep (KPx3.block gf KFx2.out.lt (by have := HG.out; omega)))
  have OWx3 := hid (OWx2.out.carry KPx3 (.inr (by have := HG.out; omega)))
  have KRx3 := hid (KRx2.out.keep (KPx3.block gr KRx2.out.lt (by have := HG.out; omega)))
  clear KPx3 by1 Bx2 KFx2 OWx2 KRx2
  simp only [List.mem_cons, List.mem_nil_iff, or_false] at um
  obtain ⟨V, hV⟩ := Int.eq_ofNat_of_zero_le (show 0 ≤ u by omega)
  subst hV
  have hV : V ≤ 1000 := by omega
  clear um
  go_wp2_with fail
  refine (bytesOf Rx3.out V hV).mono ?_
  rintro e x4 ⟨q, c4, l4, rfl, el, hb4, kq, w4, r4, b4⟩
  have Rx4 := hid (r4)
  have GQ : Hid (gf < q) := Nat.lt_of_lt_of_le KFx3.out.lt kq
  have W4 : Hid (Row x4 q c4 l4 ∧ V = l4.length ∧ Bytes l4) := ⟨w4, el, hb4⟩
  clear r4 Rx3 kq w4 el hb4
  have KPx4 : Kept p (p + 1) x3 x4 := Kept.of_grown b4
  have Bx4 := hid (Bx3.out.trans b4)
  have KFx4 := hid (KFx3.out.keep (KPx4.block gf KFx3.out.lt (by have := HG.out; omega)))
  have OWx4 := hid (OWx3.out.carry KPx4 (.inr (by have := HG.out; omega)))
  have KRx4 := hid (KRx3.out.keep (KPx4.block gr KRx3.out.lt (by have := HG.out; omega)))
  clear KPx4 b4 Bx3 KFx3 OWx3 KRx3
  have co : x4.cell? ⟨gf, 6, none⟩ = some (.slice S.proof.a S.proof.n S.proof.c) := KFx4.out.cell 6 rfl
  have fo := KFx4.out.frozen 6
  obtain ⟨z, hz⟩ : ∃ z, x4.setCell ⟨gf, 6, none⟩ (.slice (some ⟨q, 0, none⟩) V c4) = z := ⟨_, rfl⟩
  have HZ := hid (hz)
  have KFz : Hid (Blk z gf 25 [.int .i64 D.kind, .int .i64 D.id, .slice S.cn.a S.cn.n S.cn.c, .slice S.sn.a S.sn.n S.sn.c, .int .i64 D.tick, .slice S.cookie.a S.cookie.n S.cookie.c, .slice (some ⟨q, 0, none⟩) V c4, .int .i64 D.epoch, .int .i64 D.seq, .slice S.body.a S.body.n S.body.c, .slice S.tag.a S.tag.n S.tag.c]) := by rw [← hz]; exact KFx4.out.set 6 _ (by simp [maxLen])
  have OWz : Hid (FrIn z lo gf S D) := by rw [← hz]; exact OWx4.out.carry (Kept.setCell x4 gf 6 _) (.inl (Nat.le_refl _))
  have KRz : Hid (Blk z gr 25 [.int .i64 0, .int .i64 0, .slice none 0 0, .slice none 0 0, .int .i64 0, .slice none 0 0, .slice none 0 0, .int .i64 0, .int .i64 0, .slice none 0 0, .slice none 0 0]) := by rw [← hz]; exact KRx4.out.other (by show gr ≠ gf; have := HG.out; omega) _
  have Bz : Hid (But p w z) := by rw [← hz]; exact But_setCell Bx4.out _ _ (by show w.heap.size ≤ gf; have := HG.out; omega)
  have Rz : Hid (Ready W0 a len cap l p z) := by rw [← hz]; exact Ready_setCell Rx4.out _ _ (by show gf ≠ p; have := HG.out; omega) (by show W0.heap.size ≤ gf; have := HG.out; omega)
  have NS : Hid (SOwn z (gf + 1) z.heap.size ⟨some ⟨q, 0, none⟩, V, c4⟩ l4) := by
   have r : Row z q c4 l4 := by rw [← hz]; exact W4.out.1.keep (Below.heap_setCell x4 _ _ q (by show q ≠ gf; have := GQ.out; omega))
   exact SOwn.row r W4.out.2.1 W4.out.2.2 GQ.out r.lt
  clear hz KFx4 OWx4 KRx4 Bx4 Rx4 W4
  go_upto_region 25 with fail
  rw [HZ.out]
  clear co fo HZ
  have zc0 := KRz.out.cell 0 rfl
  have zf0 := KRz.out.frozen 0
  have zo0 : z.cell? ⟨gf, 0, none⟩ = some (.int .i64 D.kind) := KFz.out.cell 0 rfl
  have zc1 := KRz.out.cell 1 rfl
  have zf1 := KRz.out.frozen 1
  have zo1 : z.cell? ⟨gf, 1, none⟩ = some (.int .i64 D.id) := KFz.out.cell 1 rfl
  have zc2 := KRz.out.cell 2 rfl
  have zf2 := KRz.out.frozen 2
  have zo2 : z.cell? ⟨gf, 2, none⟩ = some (.slice S.cn.a S.cn.n S.cn.c) := KFz.out.cell 2 rfl
  have zc3 := KRz.out.cell 3 rfl
  have zf3 := KRz.out.frozen 3
  have zo3 : z.cell? ⟨gf, 3, none⟩ = some (.slice S.sn.a S.sn.n S.sn.c) := KFz.out.cell 3 rfl
  have zc4 := KRz.out.cell 4 rfl
  have zf4 := KRz.out.frozen 4
  have zo4 : z.cell? ⟨gf, 4, none⟩ = some (.int .i64 D.tick) := KFz.out.cell 4 rfl
  have zc5 := KRz.out.cell 5 rfl
  have zf5 := KRz.out.frozen 5
  have zo5 : z.cell? ⟨gf, 5, none⟩ = some (.slice S.cookie.a S.cookie.n S.cookie.c) := KFz.out.cell 5 rfl
  have zc6 := KRz.out.cell 6 rfl
  have zf6 := KRz.out.frozen 6
  have zo6 : z.cell? ⟨gf, 6, none⟩ = some (.slice (some ⟨q, 0, none⟩) V c4) := KFz.out.cell 6 rfl
  have zc7 := KRz.out.cell 7 rfl
  have zf7 := KRz.out.frozen 7
  have zo7 : z.cell? ⟨gf, 7, none⟩ = some (.int .i64 D.epoch) := KFz.out.cell 7 rfl
  have zc8 := KRz.out.cell 8 rfl
  have zf8 := KRz.out.frozen 8
  have zo8 : z.cell? ⟨gf, 8, none⟩ = some (.int .i64 D.seq) := KFz.out.cell 8 rfl
  have zc9 := KRz.out.cell 9 rfl
  have zf9 := KRz.out.frozen 9
  have zo9 : z.cell? ⟨gf, 9, none⟩ = some (.slice S.body.a S.body.n S.body.c) := KFz.out.cell 9 rfl
  have zc10 := KRz.out.cell 10 rfl
  have zf10 := KRz.out.frozen 10
  have zo10 : z.cell? ⟨gf, 10, none⟩ = some (.slice S.tag.a S.tag.n S.tag.c) := KFz.out.cell 10 rfl
  have ne1 : gr ≠ gf := by have := HG.out; omega
  have ne2 : gf ≠ gr := by have := HG.out; omega
  have LGF : Hid (gf < z.heap.size) := KFz.out.lt
  go_wp2
  have KE : Blk ((((((((((((z).setCell ⟨gr, 0, none⟩ (.int .i64 D.kind)).setCell ⟨gr, 1, none⟩ (.int .i64 D.id)).setCell ⟨gr, 2, none⟩ (.slice S.cn.a S.cn.n S.cn.c)).setCell ⟨gr, 3, none⟩ (.slice S.sn.a S.sn.n S.sn.c)).setCell ⟨gr, 4, none⟩ (.int .i64 D.tick)).setCell ⟨gr, 5, none⟩ (.slice S.cookie.a S.cookie.n S.cookie.c)).setCell ⟨gr, 6, none⟩ (.slice (some ⟨q, 0, none⟩) V c4)).setCell ⟨gr, 7, none⟩ (.int .i64 D.epoch)).setCell ⟨gr, 8, none⟩ (.int .i64 D.seq)).setCell ⟨gr, 9, none⟩ (.slice S.body.a S.body.n S.body.c)).setCell ⟨gr, 10, none⟩ (.slice S.tag.a S.tag.n S.tag.c)) gr 25 [.int .i64 D.kind, .int .i64 D.id, .slice S.cn.a S.cn.n S.cn.c, .slice S.sn.a S.sn.n S.sn.c, .int .i64 D.tick, .slice S.cookie.a S.cookie.n S.cookie.c, .slice (some ⟨q, 0, none⟩) V c4, .int .i64 D.epoch, .int .i64 D.seq, .slice S.body.a S.body.n S.body.c, .slice S.tag.a S.tag.n S.tag.c] := (((((((((((KRz.out).set 0 _ (by simp [maxLen])).set 1 _ (by simp [maxLen])).set 2 _ (by simp [maxLen])).set 3 _ (by simp [maxLen])).set 4 _ (by simp [maxLen])).set 5 _ (by simp [maxLen])).set 6 _ (by simp [maxLen])).set 7 _ (by simp [maxLen])).set 8 _ (by simp [maxLen])).set 9 _ (by simp [maxLen])).set 10 _ (by simp [maxLen])
  have KK : Kept gr (gr + 1) z ((((((((((((z).setCell ⟨gr, 0, none⟩ (.int .i64 D.kind)).setCell ⟨gr, 1, none⟩ (.int .i64 D.id)).setCell ⟨gr, 2, none⟩ (.slice S.cn.a S.cn.n S.cn.c)).setCell ⟨gr, 3, none⟩ (.slice S.sn.a S.sn.n S.sn.c)).setCell ⟨gr, 4, none⟩ (.int .i64 D.tick)).setCell ⟨gr, 5, none⟩ (.slice S.cookie.a S.cookie.n S.cookie.c)).setCell ⟨gr, 6, none⟩ (.slice (some ⟨q, 0, none⟩) V c4)).setCell ⟨gr, 7, none⟩ (.int .i64 D.epoch)).setCell ⟨gr, 8, none⟩ (.int .i64 D.seq)).setCell ⟨gr, 9, none⟩ (.slice S.body.a S.body.n S.body.c)).setCell ⟨gr, 10, none⟩ (.slice S.tag.a S.tag.n S.tag.c)) := ((((((((((((Kept.refl gr (gr + 1) z)).trans (Kept.setCell _ gr 0 _)).trans (Kept.setCell _ gr 1 _)).trans (Kept.setCell _ gr 2 _)).trans (Kept.setCell _ gr 3 _)).trans (Kept.setCell _ gr 4 _)).trans (Kept.setCell _ gr 5 _)).trans (Kept.setCell _ gr 6 _)).trans (Kept.setCell _ gr 7 _)).trans (Kept.setCell _ gr 8 _)).trans (Kept.setCell _ gr 9 _)).trans (Kept.setCell _ gr 10 _)
  have IE := (OWz.out.carry KK (.inr (by have := HG.out; omega))).mono (lo' := w.heap.size) (hi' := ((((((((((((z).setCell ⟨gr, 0, none⟩ (.int .i64 D.kind)).setCell ⟨gr, 1, none⟩ (.int .i64 D.id)).setCell ⟨gr, 2, none⟩ (.slice S.cn.a S.cn.n S.cn.c)).setCell ⟨gr, 3, none⟩ (.slice S.sn.a S.sn.n S.sn.c)).setCell ⟨gr, 4, none⟩ (.int .i64 D.tick)).setCell ⟨gr, 5, none⟩ (.slice S.cookie.a S.cookie.n S.cookie.c)).setCell ⟨gr, 6, none⟩ (.slice (some ⟨q, 0, none⟩) V c4)).setCell ⟨gr, 7, none⟩ (.int .i64 D.epoch)).setCell ⟨gr, 8, none⟩ (.int .i64 D.seq)).setCell ⟨gr, 9, none⟩ (.slice S.body.a S.body.n S.body.c)).setCell ⟨gr, 10, none⟩ (.slice S.tag.a S.tag.n S.tag.c)).heap.size) (by have := HG.out; omega) (Nat.le_trans (Nat.le_of_lt LGF.out) KK.size)
  have NE := (NS.out.carry KK (.inr (by have := HG.out; omega))).mono (lo' := w.heap.size) (hi' := ((((((((((((z).setCell ⟨gr, 0, none⟩ (.int .i64 D.kind)).setCell ⟨gr, 1, none⟩ (.int .i64 D.id)).setCell ⟨gr, 2, none⟩ (.slice S.cn.a S.cn.n S.cn.c)).setCell ⟨gr, 3, none⟩ (.slice S.sn.a S.sn.n S.sn.c)).setCell ⟨gr, 4, none⟩ (.int .i64 D.tick)).setCell ⟨gr, 5, none⟩ (.slice S.cookie.a S.cookie.n S.cookie.c)).setCell ⟨gr, 6, none⟩ (.slice (some ⟨q, 0, none⟩) V c4)).setCell ⟨gr, 7, none⟩ (.int .i64 D.epoch)).setCell ⟨gr, 8, none⟩ (.int .i64 D.seq)).setCell ⟨gr, 9, none⟩ (.slice S.body.a S.body.n S.body.c)).setCell ⟨gr, 10, none⟩ (.slice S.tag.a S.tag.n S.tag.c)).heap.size) (by have := HG.out; omega) KK.size
  exact ret_any rfl rfl KE rfl (D := { D with proof := l4 }) (S := { S with proof := ⟨some ⟨q, 0, none⟩, V, c4⟩ }) ⟨IE.cn, IE.sn, IE.cookie, NE, IE.body, IE.tag⟩ (Ready_setCell (Ready_setCell (Ready_setCell (Ready_setCell (Ready_setCell (Ready_setCell (Ready_setCell (Ready_setCell (Ready_setCell (Ready_setCell (Ready_setCell (Rz.out) _ _ (NP HG.out) (NW HG.out)) _ _ (NP HG.out) (NW HG.out)) _ _ (NP HG.out) (NW HG.out)) _ _ (NP HG.out) (NW HG.out)) _ _ (NP HG.out) (NW HG.out)) _ _ (NP HG.out) (NW HG.out)) _ _ (NP HG.out) (NW HG.out)) _ _ (NP HG.out) (NW HG.out)) _ _ (NP HG.out) (NW HG.out)) _ _ (NP HG.out) (NW HG.out)) _ _ (NP HG.out) (NW HG.out)) (But_setCell (But_setCell (But_setCell (But_setCell (But_setCell (But_setCell (But_setCell (But_setCell (But_setCell (But_setCell (But_setCell (Bz.out) _ _ (NZ HG.out)) _ _ (NZ HG.out)) _ _ (NZ HG.out)) _ _ (NZ HG.out)) _ _ (NZ HG.out)) _ _ (NZ HG.out)) _ _ (NZ HG.out)) _ _ (NZ HG.out)) _ _ (NZ HG.out)) _ _ (NZ HG.out)) _ _ (NZ HG.out))
 have e6 : (v == 6) = false := by simpa using k6
 by_cases k7 : v = 7
 ·
  subst k7
  clear va vb k0 e0 k1 e1 k2 e2 k3 e3 k4 e4 k5 e5 k6 e6
  have KFx2 := KF2
  have OWx2 := OW2
  have KRx2 := KR2
  have Bx2 := B2
  have Rx2 := R2
  clear KF2 OW2 KR2 B2 R2
  obtain ⟨xi, hxi⟩ : ∃ xi, x2.alloc (.cells #[.int .i64 (-1), .int .i64 0, .int .i64 4294967296] 3) = xi := ⟨_, rfl⟩
  have HI := hid (hxi)
  have RI : Hid (Ready W0 a len cap l p xi) := by rw [← hxi]; exact Rx2.out.alloc _
  have BI : Hid (But p x2 xi) := by rw [← hxi]; exact (But.refl p x2).alloc _
  have LI : Hid (IntsAt xi x2.heap.size [-1, 0, 4294967296]) := by rw [← hxi]; exact ints_new x2 [-1, 0, 4294967296]
  have NI : Hid (x2.heap.size ≠ p) := by have := Rx2.out.hc.lt; show _ ≠ _; omega
  clear hxi
  go_wp2_with fail
  rw [HI.out]
  clear HI
  refine (intOfList RI.out x2.heap.size 3 [-1, 0, 4294967296] rfl LI.out NI.out (by omega) (by omega)).mono ?_
  rintro e x3 ⟨u, rfl, um, ry, by0⟩
  have Rx3 := hid (ry)
  have by1 : But p x2 x3 := BI.out.trans by0
  clear ry by0 RI BI LI NI Rx2
  have KPx3 : Kept p (p + 1) x2 x3 := Kept.of_grown by1
  have Bx3 := hid (Bx2.out.trans by1)
  have KFx3 := hid (KFx2.out.keep (KPx3.block gf KFx2.out.lt (by have := HG.out; omega)))
  have OWx3 := hid (OWx2.out.carry KPx3 (.inr (by have := HG.out; omega)))
  have KRx3 := hid (KRx2.out.keep (KPx3.block gr KRx2.out.lt (by have := HG.out; omega)))
  clear KPx3 by1 Bx2 KFx2 OWx2 KRx2
  clear um
  have co : x3.cell? ⟨gf, 7, none⟩ = some (.int .i64 D.epoch) := KFx3.out.cell 7 rfl
  have fo := KFx3.out.frozen 7
  obtain ⟨z, hz⟩ : ∃ z, x3.setCell ⟨gf, 7, none⟩ (.int .i64 u) = z := ⟨_, rfl⟩
  have HZ := hid (hz)
  have KFz : Hid (Blk z gf 25 [.int .i64 D.kind, .int .i64 D.id, .slice S.cn.a S.cn.n S.cn.c, .slice S.sn.a S.sn.n S.sn.c, .int .i64 D.tick, .slice S.cookie.a S.cookie.n S.cookie.c, .slice S.proof.a S.proof.n S.proof.c, .int .i64 u, .int .i64 D.seq, .slice S.body.a S.body.n S.body.c, .slice S.tag.a S.tag.n S.tag.c]) := by rw [← hz]; exact KFx3.out.set 7 _ (by simp [maxLen])
  have OWz : Hid (FrIn z lo gf S D) := by rw [← hz]; exact OWx3.out.carry (Kept.setCell x3 gf 7 _) (.inl (Nat.le_refl _))
  have KRz : Hid (Blk z gr 25 [.int .i64 0, .int .i64 0, .slice none 0 0, .slice none 0 0, .int .i64 0, .slice none 0 0, .slice none 0 0, .int .i64 0, .int .i64 0, .slice none 0 0, .slice none 0 0]) := by rw [← hz]; exact KRx3.out.other (by show gr ≠ gf; have := HG.out; omega) _
  have Bz : Hid (But p w z) := by rw [← hz]; exact But_setCell Bx3.out _ _ (by show w.heap.size ≤ gf; have := HG.out; omega)
  have Rz : Hid (Ready W0 a len cap l p z) := by rw [← hz]; exact Ready_setCell Rx3.out _ _ (by show gf ≠ p; have := HG.out; omega) (by show W0.heap.size ≤ gf; have := HG.out; omega)
  clear hz KFx3 OWx3 KRx3 Bx3 Rx3
  go_upto_region 25 with fail
  rw [HZ.out]
  clear co fo HZ
  have zc0 := KRz.out.cell 0 rfl
  have zf0 := KRz.out.frozen 0
  have zo0 : z.cell? ⟨gf, 0, none⟩ = some (.int .i64 D.kind) := KFz.out.cell 0 rfl
  have zc1 := KRz.out.cell 1 rfl
  have zf1 := KRz.out.frozen 1
  have zo1 : z.cell? ⟨gf, 1, none⟩ = some (.int .i64 D.id) := KFz.out.cell 1 rfl
  have zc2 := KRz.out.cell 2 rfl
  have zf2 := KRz.out.frozen 2
  have zo2 : z.cell? ⟨gf, 2, none⟩ = some (.slice S.cn.a S.cn.n S.cn.c) := KFz.out.cell 2 rfl
  have zc3 := KRz.out.cell 3 rfl
  have zf3 := KRz.out.frozen 3
  have zo3 : z.cell? ⟨gf, 3, none⟩ = some (.slice S.sn.a S.sn.n S.sn.c) := KFz.out.cell 3 rfl
  have zc4 := KRz.out.cell 4 rfl
  have zf4 := KRz.out.frozen 4
  have zo4 : z.cell? ⟨gf, 4, none⟩ = some (.int .i64 D.tick) := KFz.out.cell 4 rfl
  have zc5 := KRz.out.cell 5 rfl
  have zf5 := KRz.out.frozen 5
  have zo5 : z.cell? ⟨gf, 5, none⟩ = some (.slice S.cookie.a S.cookie.n S.cookie.c) := KFz.out.cell 5 rfl
  have zc6 := KRz.out.cell 6 rfl
  have zf6 := KRz.out.frozen 6
  have zo6 : z.cell? ⟨gf, 6, none⟩ = some (.slice S.proof.a S.proof.n S.proof.c) := KFz.out.cell 6 rfl
  have zc7 := KRz.out.cell 7 rfl
  have zf7 := KRz.out.frozen 7
  have zo7 : z.cell? ⟨gf, 7, none⟩ = some (.int .i64 u) := KFz.out.cell 7 rfl
  have zc8 := KRz.out.cell 8 rfl
  have zf8 := KRz.out.frozen 8
  have zo8 : z.cell? ⟨gf, 8, none⟩ = some (.int .i64 D.seq) := KFz.out.cell 8 rfl
  have zc9 := KRz.out.cell 9 rfl
  have zf9 := KRz.out.frozen 9
  have zo9 : z.cell? ⟨gf, 9, none⟩ = some (.slice S.body.a S.body.n S.body.c) := KFz.out.cell 9 rfl
  have zc10 := KRz.out.cell 10 rfl
  have zf10 := KRz.out.frozen 10
  have zo10 : z.cell? ⟨gf, 10, none⟩ = some (.slice S.tag.a S.tag.n S.tag.c) := KFz.out.cell 10 rfl
  have ne1 : gr ≠ gf := by have := HG.out; omega
  have ne2 : gf ≠ gr := by have := HG.out; omega
  have LGF : Hid (gf < z.heap.size) := KFz.out.lt
  go_wp2
  have KE : Blk ((((((((((((z).setCell ⟨gr, 0, none⟩ (.int .i64 D.kind)).setCell ⟨gr, 1, none⟩ (.int .i64 D.id)).setCell ⟨gr, 2, none⟩ (.slice S.cn.a S.cn.n S.cn.c)).setCell ⟨gr, 3, none⟩ (.slice S.sn.a S.sn.n S.sn.c)).setCell ⟨gr, 4, none⟩ (.int .i64 D.tick)).setCell ⟨gr, 5, none⟩ (.slice S.cookie.a S.cookie.n S.cookie.c)).setCell ⟨gr, 6, none⟩ (.slice S.proof.a S.proof.n S.proof.c)).setCell ⟨gr, 7, none⟩ (.int .i64 u)).setCell ⟨gr, 8, none⟩ (.int .i64 D.seq)).setCell ⟨gr, 9, none⟩ (.slice S.body.a S.body.n S.body.c)).setCell ⟨gr, 10, none⟩ (.slice S.tag.a S.tag.n S.tag.c)) gr 25 [.int .i64 D.kind, .int .i64 D.id, .slice S.cn.a S.cn.n S.cn.c, .slice S.sn.a S.sn.n S.sn.c, .int .i64 D.tick, .slice S.cookie.a S.cookie.n S.cookie.c, .slice S.proof.a S.proof.n S.proof.c, .int .i64 u, .int .i64 D.seq, .slice S.body.a S.body.n S.body.c, .slice S.tag.a S.tag.n S.tag.c] := (((((((((((KRz.out).set 0 _ (by simp [maxLen])).set 1 _ (by simp [maxLen])).set 2 _ (by simp [maxLen])).set 3 _ (by simp [maxLen])).set 4 _ (by simp [maxLen])).set 5 _ (by simp [maxLen])).set 6 _ (by simp [maxLen])).set 7 _ (by simp [maxLen])).set 8 _ (by simp [maxLen])).set 9 _ (by simp [maxLen])).set 10 _ (by simp [maxLen])
  have KK : Kept gr (gr + 1) z ((((((((((((z).setCell ⟨gr, 0, none⟩ (.int .i64 D.kind)).setCell ⟨gr, 1, none⟩ (.int .i64 D.id)).setCell ⟨gr, 2, none⟩ (.slice S.cn.a S.cn.n S.cn.c)).setCell ⟨gr, 3, none⟩ (.slice S.sn.a S.sn.n S.sn.c)).setCell ⟨gr, 4, none⟩ (.int .i64 D.tick)).setCell ⟨gr, 5, none⟩ (.slice S.cookie.a S.cookie.n S.cookie.c)).setCell ⟨gr, 6, none⟩ (.slice S.proof.a S.proof.n S.proof.c)).setCell ⟨gr, 7, none⟩ (.int .i64 u)).setCell ⟨gr, 8, none⟩ (.int .i64 D.seq)).setCell ⟨gr, 9, none⟩ (.slice S.body.a S.body.n S.body.c)).setCell ⟨gr, 10, none⟩ (.slice S.tag.a S.tag.n S.tag.c)) := ((((((((((((Kept.refl gr (gr + 1) z)).trans (Kept.setCell _ gr 0 _)).trans (Kept.setCell _ gr 1 _)).trans (Kept.setCell _ gr 2 _)).trans (Kept.setCell _ gr 3 _)).trans (Kept.setCell _ gr 4 _)).trans (Kept.setCell _ gr 5 _)).trans (Kept.setCell _ gr 6 _)).trans (Kept.setCell _ gr 7 _)).trans (Kept.setCell _ gr 8 _)).trans (Kept.setCell _ gr 9 _)).trans (Kept.setCell _ gr 10 _)
  have IE := (OWz.out.carry KK (.inr (by have := HG.out; omega))).mono (lo' := w.heap.size) (hi' := ((((((((((((z).setCell ⟨gr, 0, none⟩ (.int .i64 D.kind)).setCell ⟨gr, 1, none⟩ (.int .i64 D.id)).setCell ⟨gr, 2, none⟩ (.slice S.cn.a S.cn.n S.cn.c)).setCell ⟨gr, 3, none⟩ (.slice S.sn.a S.sn.n S.sn.c)).setCell ⟨gr, 4, none⟩ (.int .i64 D.tick)).setCell ⟨gr, 5, none⟩ (.slice S.cookie.a S.cookie.n S.cookie.c)).setCell ⟨gr, 6, none⟩ (.slice S.proof.a S.proof.n S.proof.c)).setCell ⟨gr, 7, none⟩ (.int .i64 u)).setCell ⟨gr, 8, none⟩ (.int .i64 D.seq)).setCell ⟨gr, 9, none⟩ (.slice S.body.a S.body.n S.body.c)).setCell ⟨gr, 10, none⟩ (.slice S.tag.a S.tag.n S.tag.c)).heap.size) (by have := HG.out; omega) (Nat.le_trans (Nat.le_of_lt LGF.out) KK.size)
  exact ret_any rfl rfl KE rfl (D := { D with epoch := u }) (S := S) ⟨IE.cn, IE.sn, IE.cookie, IE.proof, IE.body, IE.tag⟩ (Ready_setCell (Ready_setCell (Ready_setCell (Ready_setCell (Ready_setCell (Ready_setCell (Ready_setCell (Ready_setCell (Ready_setCell (Ready_setCell (Ready_setCell (Rz.out) _ _ (NP HG.out) (NW HG.out)) _ _ (NP HG.out) (NW HG.out)) _ _ (NP HG.out) (NW HG.out)) _ _ (NP HG.out) (NW HG.out)) _ _ (NP HG.out) (NW HG.out)) _ _ (NP HG.out) (NW HG.out)) _ _ (NP HG.out) (NW HG.out)) _ _ (NP HG.out) (NW HG.out)) _ _ (NP HG.out) (NW HG.out)) _ _ (NP HG.out) (NW HG.out)) _ _ (NP HG.out) (NW HG.out)) (But_setCell (But_setCell (But_setCell (But_setCell (But_setCell (But_setCell (But_setCell (But_setCell (But_setCell (But_setCell (But_setCell (Bz.out) _ _ (NZ HG.out)) _ _ (NZ HG.out)) _ _ (NZ HG.out)) _ _ (NZ HG.out)) _ _ (NZ HG.out)) _ _ (NZ HG.out)) _ _ (NZ HG.out)) _ _ (NZ HG.out)) _ _ (NZ HG.out)) _ _ (NZ HG.out)) _ _ (NZ HG.out))
 have e7 : (v == 7) = false := by simpa using k7
 by_cases k8 : v = 8
 ·
  subst k8
  clear va vb k0 e0 k1 e1 k2 e2 k3 e3 k4 e4 k5 e5 k6 e6 k7 e7
  have KFx2 := KF2
  have OWx2 := OW2
  have KRx2 := KR2
  have Bx2 := B2
  have Rx2 := R2
  clear KF2 OW2 KR2 B2 R2
  obtain ⟨xi, hxi⟩ : ∃ xi, x2.alloc (.cells #[.int .i64 (-1), .int .i64 0, .int .i64 281474976710656] 3) = xi := ⟨_, rfl⟩
  have HI := hid (hxi)
  have RI : Hid (Ready W0 a len cap l p xi) := by rw [← hxi]; exact Rx2.out.alloc _
  have BI : Hid (But p x2 xi) := by rw [← hxi]; exact (But.refl p x2).alloc _
  have LI : Hid (IntsAt xi x2.heap.size [-1, 0, 281474976710656]) := by rw [← hxi]; exact ints_new x2 [-1, 0, 281474976710656]
  have NI : Hid (x2.heap.size ≠ p) := by have := Rx2.out.hc.lt; show _ ≠ _; omega
  clear hxi
  go_wp2_with fail
  rw [HI.out]
  clear HI
  refine (intOfList RI.out x2.heap.size 3 [-1, 0, 281474976710656] rfl LI.out NI.out (by omega) (by omega)).mono ?_
  rintro e x3 ⟨u, rfl, um, ry, by0⟩
  have Rx3 := hid (ry)
  have by1 : But p x2 x3 := BI.out.trans by0
  clear ry by0 RI BI LI NI Rx2
  have KPx3 : Kept p (p + 1) x2 x3 := Kept.of_grown by1
  have Bx3 := hid (Bx2.out.trans by1)
  have KFx3 := hid (KFx2.out.keep (KPx3.block gf KFx2.out.lt (by have := HG.out; omega)))
  have OWx3 := hid (OWx2.out.carry KPx3 (.inr (by have := HG.out; omega)))
  have KRx3 := hid (KRx2.out.keep (KPx3.block gr KRx2.out.lt (by have := HG.out; omega)))
  clear KPx3 by1 Bx2 KFx2 OWx2 KRx2
  clear um
  have co : x3.cell? ⟨gf, 8, none⟩ = some (.int .i64 D.seq) := KFx3.out.cell 8 rfl
  have fo := KFx3.out.frozen 8
  obtain ⟨z, hz⟩ : ∃ z, x3.setCell ⟨gf, 8, none⟩ (.int .i64 u) = z := ⟨_, rfl⟩
  have HZ := hid (hz)
  have KFz : Hid (Blk z gf 25 [.int .i64 D.kind, .int .i64 D.id, .slice S.cn.a S.cn.n S.cn.c, .slice S.sn.a S.sn.n S.sn.c, .int .i64 D.tick, .slice S.cookie.a S.cookie.n S.cookie.c, .slice S.proof.a S.proof.n S.proof.c, .int .i64 D.epoch, .int .i64 u, .slice S.body.a S.body.n S.body.c, .slice S.tag.a S.tag.n S.tag.c]) := by rw [← hz]; exact KFx3.out.set 8 _ (by simp [maxLen])
  have OWz : Hid (FrIn z lo gf S D) := by rw [← hz]; exact OWx3.out.carry (Kept.setCell x3 gf 8 _) (.inl (Nat.le_refl _))
  have KRz : Hid (Blk z gr 25 [.int .i64 0, .int .i64 0, .slice none 0 0, .slice none 0 0, .int .i64 0, .slice none 0 0, .slice none 0 0, .int .i64 0, .int .i64 0, .slice none 0 0, .slice none 0 0]) := by rw [← hz]; exact KRx3.out.other (by show gr ≠ gf; have := HG.out; omega) _
  have Bz : Hid (But p w z) := by rw [← hz]; exact But_setCell Bx3.out _ _ (by show w.heap.size ≤ gf; have := HG.out; omega)
  have Rz : Hid (Ready W0 a len cap l p z) := by rw [← hz]; exact Ready_setCell Rx3.out _ _ (by show gf ≠ p; have := HG.out; omega) (by show W0.heap.size ≤ gf; have := HG.out; omega)
  clear hz KFx3 OWx3 KRx3 Bx3 Rx3
  go_upto_region 25 with fail
  rw [HZ.out]
  clear co fo HZ
  have zc0 := KRz.out.cell 0 rfl
  have zf0 := KRz.out.frozen 0
  have zo0 : z.cell? ⟨gf, 0, none⟩ = some (.int .i64 D.kind) := KFz.out.cell 0 rfl
  have zc1 := KRz.out.cell 1 rfl
  have zf1 := KRz.out.frozen 1
  have zo1 : z.cell? ⟨gf, 1, none⟩ = some (.int .i64 D.id) := KFz.out.cell 1 rfl
  have zc2 := KRz.out.cell 2 rfl
  have zf2 := KRz.out.frozen 2
  have zo2 : z.cell? ⟨gf, 2, none⟩ = some (.slice S.cn.a S.cn.n S.cn.c) := KFz.out.cell 2 rfl
  have zc3 := KRz.out.cell 3 rfl
  have zf3 := KRz.out.frozen 3
  have zo3 : z.cell? ⟨gf, 3, none⟩ = some (.slice S.sn.a S.sn.n S.sn.c) := KFz.out.cell 3 rfl
  have zc4 := KRz.out.cell 4 rfl
  have zf4 := KRz.out.frozen 4
  have zo4 : z.cell? ⟨gf, 4, none⟩ = some (.int .i64 D.tick) := KFz.out.cell 4 rfl
  have zc5 := KRz.out.cell 5 rfl
  have zf5 := KRz.out.frozen 5
  have zo5 : z.cell? ⟨gf, 5, none⟩ = some (.slice S.cookie.a S.cookie.n S.cookie.c) := KFz.out.cell 5 rfl
  have zc6 := KRz.out.cell 6 rfl
  have zf6 := KRz.out.frozen 6
  have zo6 : z.cell? ⟨gf, 6, none⟩ = some (.slice S.proof.a S.proof.n S.proof.c) := KFz.out.cell 6 rfl
  have zc7 := KRz.out.cell 7 rfl
  have zf7 := KRz.out.frozen 7
  have zo7 : z.cell? ⟨gf, 7, none⟩ = some (.int .i64 D.epoch) := KFz.out.cell 7 rfl
  have zc8 := KRz.out.cell 8 rfl
  have zf8 := KRz.out.frozen 8
  have zo8 : z.cell? ⟨gf, 8, none⟩ = some (.int .i64 u) := KFz.out.cell 8 rfl
  have zc9 := KRz.out.cell 9 rfl
  have zf9 := KRz.out.frozen 9
  have zo9 : z.cell? ⟨gf, 9, none⟩ = some (.slice S.body.a S.body.n S.body.c) := KFz.out.cell 9 rfl
  have zc10 := KRz.out.cell 10 rfl
  have zf10 := KRz.out.frozen 10
  have zo10 : z.cell? ⟨gf, 10, none⟩ = some (.slice S.tag.a S.tag.n S.tag.c) := KFz.out.cell 10 rfl
  have ne1 : gr ≠ gf := by have := HG.out; omega
  have ne2 : gf ≠ gr := by have := HG.out; omega
  have LGF : Hid (gf < z.heap.size) := KFz.out.lt
  go_wp2
  have KE : Blk ((((((((((((z).setCell ⟨gr, 0, none⟩ (.int .i64 D.kind)).setCell ⟨gr, 1, none⟩ (.int .i64 D.id)).setCell ⟨gr, 2, none⟩ (.slice S.cn.a S.cn.n S.cn.c)).setCell ⟨gr, 3, none⟩ (.slice S.sn.a S.sn.n S.sn.c)).setCell ⟨gr, 4, none⟩ (.int .i64 D.tick)).setCell ⟨gr, 5, none⟩ (.slice S.cookie.a S.cookie.n S.cookie.c)).setCell ⟨gr, 6, none⟩ (.slice S.proof.a S.proof.n S.proof.c)).setCell ⟨gr, 7, none⟩ (.int .i64 D.epoch)).setCell ⟨gr, 8, none⟩ (.int .i64 u)).setCell ⟨gr, 9, none⟩ (.slice S.body.a S.body.n S.body.c)).setCell ⟨gr, 10, none⟩ (.slice S.tag.a S.tag.n S.tag.c)) gr 25 [.int .i64 D.kind, .int .i64 D.id, .slice S.cn.a S.cn.n S.cn.c, .slice S.sn.a S.sn.n S.sn.c, .int .i64 D.tick, .slice S.cookie.a S.cookie.n S.cookie.c, .slice S.proof.a S.proof.n S.proof.c, .int .i64 D.epoch, .int .i64 u, .slice S.body.a S.body.n S.body.c, .slice S.tag.a S.tag.n S.tag.c] := (((((((((((KRz.out).set 0 _ (by simp [maxLen])).set 1 _ (by simp [maxLen])).set 2 _ (by simp [maxLen])).set 3 _ (by simp [maxLen])).set 4 _ (by simp [maxLen])).set 5 _ (by simp [maxLen])).set 6 _ (by simp [maxLen])).set 7 _ (by simp [maxLen])).set 8 _ (by simp [maxLen])).set 9 _ (by simp [maxLen])).set 10 _ (by simp [maxLen])
  have KK : Kept gr (gr + 1) z ((((((((((((z).setCell ⟨gr, 0, none⟩ (.int .i64 D.kind)).setCell ⟨gr, 1, none⟩ (.int .i64 D.id)).setCell ⟨gr, 2, none⟩ (.slice S.cn.a S.cn.n S.cn.c)).setCell ⟨gr, 3, none⟩ (.slice S.sn.a S.sn.n S.sn.c)).setCell ⟨gr, 4, none⟩ (.int .i64 D.tick)).setCell ⟨gr, 5, none⟩ (.slice S.cookie.a S.cookie.n S.cookie.c)).setCell ⟨gr, 6, none⟩ (.slice S.proof.a S.proof.n S.proof.c)).setCell ⟨gr, 7, none⟩ (.int .i64 D.epoch)).setCell ⟨gr, 8, none⟩ (.int .i64 u)).setCell ⟨gr, 9, none⟩ (.slice S.body.a S.body.n S.body.c)).setCell ⟨gr, 10, none⟩ (.slice S.tag.a S.tag.n S.tag.c)) := ((((((((((((Kept.refl gr (gr + 1) z)).trans (Kept.setCell _ gr 0 _)).trans (Kept.setCell _ gr 1 _)).trans (Kept.setCell _ gr 2 _)).trans (Kept.setCell _ gr 3 _)).trans (Kept.setCell _ gr 4 _)).trans (Kept.setCell _ gr 5 _)).trans (Kept.setCell _ gr 6 _)).trans (Kept.setCell _ gr 7 _)).trans (Kept.setCell _ gr 8 _)).trans (Kept.setCell _ gr 9 _)).trans (Kept.setCell _ gr 10 _)
  have IE := (OWz.out.carry KK (.inr (by have := HG.out; omega))).mono (lo' := w.heap.size) (hi' := ((((((((((((z).setCell ⟨gr, 0, none⟩ (.int .i64 D.kind)).setCell ⟨gr, 1, none⟩ (.int .i64 D.id)).setCell ⟨gr, 2, none⟩ (.slice S.cn.a S.cn.n S.cn.c)).setCell ⟨gr, 3, none⟩ (.slice S.sn.a S.sn.n S.sn.c)).setCell ⟨gr, 4, none⟩ (.int .i64 D.tick)).setCell ⟨gr, 5, none⟩ (.slice S.cookie.a S.cookie.n S.cookie.c)).setCell ⟨gr, 6, none⟩ (.slice S.proof.a S.proof.n S.proof.c)).setCell ⟨gr, 7, none⟩ (.int .i64 D.epoch)).setCell ⟨gr, 8, none⟩ (.int .i64 u)).setCell ⟨gr, 9, none⟩ (.slice S.body.a S.body.n S.body.c)).setCell ⟨gr, 10, none⟩ (.slice S.tag.a S.tag.n S.tag.c)).heap.size) (by have := HG.out; omega) (Nat.le_trans (Nat.le_of_lt LGF.out) KK.size)
  exact ret_any rfl rfl KE rfl (D := { D with seq := u }) (S := S) ⟨IE.cn, IE.sn, IE.cookie, IE.proof, IE.body, IE.tag⟩ (Ready_setCell (Ready_setCell (Ready_setCell (Ready_setCell (Ready_setCell (Ready_setCell (Ready_setCell (Ready_setCell (Ready_setCell (Ready_setCell (Ready_setCell (Rz.out) _ _ (NP HG.out) (NW HG.out)) _ _ (NP HG.out) (NW HG.out)) _ _ (NP HG.out) (NW HG.out)) _ _ (NP HG.out) (NW HG.out)) _ _ (NP HG.out) (NW HG.out)) _ _ (NP HG.out) (NW HG.out)) _ _ (NP HG.out) (NW HG.out)) _ _ (NP HG.out) (NW HG.out)) _ _ (NP HG.out) (NW HG.out)) _ _ (NP HG.out) (NW HG.out)) _ _ (NP HG.out) (NW HG.out)) (But_setCell (But_setCell (But_setCell (But_setCell (But_setCell (But_setCell (But_setCell (But_setCell (But_setCell (But_setCell (But_setCell (Bz.out) _ _ (NZ HG.out)) _ _ (NZ HG.out)) _ _ (NZ HG.out)) _ _ (NZ HG.out)) _ _ (NZ HG.out)) _ _ (NZ HG.out)) _ _ (NZ HG.out)) _ _ (NZ HG.out)) _ _ (NZ HG.out)) _ _ (NZ HG.out)) _ _ (NZ HG.out))
 have e8 : (v == 8) = false := by simpa using k8
 by_cases k9 : v = 9
 ·
  subst k9
  clear va vb k0 e0 k1 e1 k2 e2 k3 e3 k4 e4 k5 e5 k6 e6 k7 e7 k8 e8
  have KFx2 := KF2
  have OWx2 := OW2
  have KRx2 := KR2
  have Bx2 := B2
  have Rx2 := R2
  clear KF2 OW2 KR2 B2 R2
  obtain ⟨xi, hxi⟩ : ∃ xi, x2.alloc (.cells #[.int .i64 0, .int .i64 4, .int .i64 12, .int .i64 41] 3) = xi := ⟨_, rfl⟩
  have HI := hid (hxi)
  have RI : Hid (Ready W0 a len cap l p xi) := by rw [← hxi]; exact Rx2.out.alloc _
  have BI : Hid (But p x2 xi) := by rw [← hxi]; exact (But.refl p x2).alloc _
  have LI : Hid (IntsAt xi x2.heap.size [0, 4, 12, 41]) := by rw [← hxi]; exact ints_new x2 [0, 4, 12, 41]
  have NI : Hid (x2.heap.size ≠ p) := by have := Rx2.out.hc.lt; show _ ≠ _; omega
  clear hxi
  go_wp2_with fail
  rw [HI.out]
  clear HI
  refine (intOfList RI.out x2.heap.size 4 [0, 4, 12, 41] rfl LI.out NI.out (by omega) (by omega)).mono ?_
  rintro e x3 ⟨u, rfl, um, ry, by0⟩
  have Rx3 := hid (ry)
  have by1 : But p x2 x3 := BI.out.trans by0
  clear ry by0 RI BI LI NI Rx2
  have KPx3 : Kept p (p + 1) x2 x3 := Kept.of_grown by1
  have Bx3 := hid (Bx2.out.trans by1)
  have KFx3 := hid (KFx2.out.keep (KPx3.block gf KFx2.out.lt (by have := HG.out; omega)))
  have OWx3 := hid (OWx2.out.carry KPx3 (.inr (by have := HG.out; omega)))
  have KRx3 := hid (KRx2.out.keep (KPx3.block gr KRx2.out.lt (by have := HG.out; omega)))
  clear KPx3 by1 Bx2 KFx2 OWx2 KRx2
  simp only [List.mem_cons, List.mem_nil_iff, or_false] at um
  obtain ⟨V, hV⟩ := Int.eq_ofNat_of_zero_le (show 0 ≤ u by omega)
  subst hV
  have hV : V ≤ 1000 := by omega
  clear um
  go_wp2_with fail
  refine (bytesOf Rx3.out V hV).mono ?_
  rintro e x4 ⟨q, c4, l4, rfl, el, hb4, kq, w4, r4, b4⟩
  have Rx4 := hid (r4)
  have GQ : Hid (gf < q) := Nat.lt_of_lt_of_le KFx3.out.lt kq
  have W4 : Hid (Row x4 q c4 l4 ∧ V = l4.length ∧ Bytes l4) := ⟨w4, el, hb4⟩
  clear r4 Rx3 kq w4 el hb4
  have KPx4 : Kept p (p + 1) x3 x4 := Kept.of_grown b4
  have Bx4 := hid (Bx3.out.trans b4)
  have KFx4 := hid (KFx3.out.keep (KPx4.block gf KFx3.out.lt (by have := HG.out; omega)))
  have OWx4 := hid (OWx3.out.carry KPx4 (.inr (by have := HG.out; omega)))
  have KRx4 := hid (KRx3.out.keep (KPx4.block gr KRx3.out.lt (by have := HG.out; omega)))
  clear KPx4 b4 Bx3 KFx3 OWx3 KRx3
  have co : x4.cell? ⟨gf, 9, none⟩ = some (.slice S.body.a S.body.n S.body.c) := KFx4.out.cell 9 rfl
  have fo := KFx4.out.frozen 9
  obtain ⟨z, hz⟩ : ∃ z, x4.setCell ⟨gf, 9, none⟩ (.slice (some ⟨q, 0, none⟩) V c4) = z := ⟨_, rfl⟩
  have HZ := hid (hz)
  have KFz : Hid (Blk z gf 25 [.int .i64 D.kind, .int .i64 D.id, .slice S.cn.a S.cn.n S.cn.c, .slice S.sn.a S.sn.n S.sn.c, .int .i64 D.tick, .slice S.cookie.a S.cookie.n S.cookie.c, .slice S.proof.a S.proof.n S.proof.c, .int .i64 D.epoch, .int .i64 D.seq, .slice (some ⟨q, 0, none⟩) V c4, .slice S.tag.a S.tag.n S.tag.c]) := by rw [← hz]; exact KFx4.out.set 9 _ (by simp [maxLen])
  have OWz : Hid (FrIn z lo gf S D) := by rw [← hz]; exact OWx4.out.carry (Kept.setCell x4 gf 9 _) (.inl (Nat.le_refl _))
  have KRz : Hid (Blk z gr 25 [.int .i64 0, .int .i64 0, .slice none 0 0, .slice none 0 0, .int .i64 0, .slice none 0 0, .slice none 0 0, .int .i64 0, .int .i64 0, .slice none 0 0, .slice none 0 0]) := by rw [← hz]; exact KRx4.out.other (by show gr ≠ gf; have := HG.out; omega) _
  have Bz : Hid (But p w z) := by rw [← hz]; exact But_setCell Bx4.out _ _ (by show w.heap.size ≤ gf; have := HG.out; omega)
  have Rz : Hid (Ready W0 a len cap l p z) := by rw [← hz]; exact Ready_setCell Rx4.out _ _ (by show gf ≠ p; have := HG.out; omega) (by show W0.heap.size ≤ gf; have := HG.out; omega)
  have NS : Hid (SOwn z (gf + 1) z.heap.size ⟨some ⟨q, 0, none⟩, V, c4⟩ l4) := by
   have r : Row z q c4 l4 := by rw [← hz]; exact W4.out.1.keep (Below.heap_setCell x4 _ _ q (by show q ≠ gf; have := GQ.out; omega))
   exact SOwn.row r W4.out.2.1 W4.out.2.2 GQ.out r.lt
  clear hz KFx4 OWx4 KRx4 Bx4 Rx4 W4
  go_upto_region 25 with fail
  rw [HZ.out]
  clear co fo HZ
  have zc0 := KRz.out.cell 0 rfl
  have zf0 := KRz.out.frozen 0
  have zo0 : z.cell? ⟨gf, 0, none⟩ = some (.int .i64 D.kind) := KFz.out.cell 0 rfl
  have zc1 := KRz.out.cell 1 rfl
  have zf1 := KRz.out.frozen 1
  have zo1 : z.cell? ⟨gf, 1, none⟩ = some (.int .i64 D.id) := KFz.out.cell 1 rfl
  have zc2 := KRz.out.cell 2 rfl
  have zf2 := KRz.out.frozen 2
  have zo2 : z.cell? ⟨gf, 2, none⟩ = some (.slice S.cn.a S.cn.n S.cn.c) := KFz.out.cell 2 rfl
  have zc3 := KRz.out.cell 3 rfl
  have zf3 := KRz.out.frozen 3
  have zo3 : z.cell? ⟨gf, 3, none⟩ = some (.slice S.sn.a S.sn.n S.sn.c) := KFz.out.cell 3 rfl
  have zc4 := KRz.out.cell 4 rfl
  have zf4 := KRz.out.frozen 4
  have zo4 : z.cell? ⟨gf, 4, none⟩ = some (.int .i64 D.tick) := KFz.out.cell 4 rfl
  have zc5 := KRz.out.cell 5 rfl
  have zf5 := KRz.out.frozen 5
  have zo5 : z.cell? ⟨gf, 5, none⟩ = some (.slice S.cookie.a S.cookie.n S.cookie.c) := KFz.out.cell 5 rfl
  have zc6 := KRz.out.cell 6 rfl
  have zf6 := KRz.out.frozen 6
  have zo6 : z.cell? ⟨gf, 6, none⟩ = some (.slice S.proof.a S.proof.n S.proof.c) := KFz.out.cell 6 rfl
  have zc7 := KRz.out.cell 7 rfl
  have zf7 := KRz.out.frozen 7
  have zo7 : z.cell? ⟨gf, 7, none⟩ = some (.int .i64 D.epoch) := KFz.out.cell 7 rfl
  have zc8 := KRz.out.cell 8 rfl
  have zf8 := KRz.out.frozen 8
  have zo8 : z.cell? ⟨gf, 8, none⟩ = some (.int .i64 D.seq) := KFz.out.cell 8 rfl
  have zc9 := KRz.out.cell 9 rfl
  have zf9 := KRz.out.frozen 9
  have zo9 : z.cell? ⟨gf, 9, none⟩ = some (.slice (some ⟨q, 0, none⟩) V c4) := KFz.out.cell 9 rfl
  have zc10 := KRz.out.cell 10 rfl
  have zf10 := KRz.out.frozen 10
  have zo10 : z.cell? ⟨gf, 10, none⟩ = some (.slice S.tag.a S.tag.n S.tag.c) := KFz.out.cell 10 rfl
  have ne1 : gr ≠ gf := by have := HG.out; omega
  have ne2 : gf ≠ gr := by have := HG.out; omega
  have LGF : Hid (gf < z.heap.size) := KFz.out.lt
  go_wp2
  have KE : Blk ((((((((((((z).setCell ⟨gr, 0, none⟩ (.int .i64 D.kind)).setCell ⟨gr, 1, none⟩ (.int .i64 D.id)).setCell ⟨gr, 2, none⟩ (.slice S.cn.a S.cn.n S.cn.c)).setCell ⟨gr, 3, none⟩ (.slice S.sn.a S.sn.n S.sn.c)).setCell ⟨gr, 4, none⟩ (.int .i64 D.tick)).setCell ⟨gr, 5, none⟩ (.slice S.cookie.a S.cookie.n S.cookie.c)).setCell ⟨gr, 6, none⟩ (.slice S.proof.a S.proof.n S.proof.c)).setCell ⟨gr, 7, none⟩ (.int .i64 D.epoch)).setCell ⟨gr, 8, none⟩ (.int .i64 D.seq)).setCell ⟨gr, 9, none⟩ (.slice (some ⟨q, 0, none⟩) V c4)).setCell ⟨gr, 10, none⟩ (.slice S.tag.a S.tag.n S.tag.c)) gr 25 [.int .i64 D.kind, .int .i64 D.id, .slice S.cn.a S.cn.n S.cn.c, .slice S.sn.a S.sn.n S.sn.c, .int .i64 D.tick, .slice S.cookie.a S.cookie.n S.cookie.c, .slice S.proof.a S.proof.n S.proof.c, .int .i64 D.epoch, .int .i64 D.seq, .slice (some ⟨q, 0, none⟩) V c4, .slice S.tag.a S.tag.n S.tag.c] := (((((((((((KRz.out).set 0 _ (by simp [maxLen])).set 1 _ (by simp [maxLen])).set 2 _ (by simp [maxLen])).set 3 _ (by simp [maxLen])).set 4 _ (by simp [maxLen])).set 5 _ (by simp [maxLen])).set 6 _ (by simp [maxLen])).set 7 _ (by simp [maxLen])).set 8 _ (by simp [maxLen])).set 9 _ (by simp [maxLen])).set 10 _ (by simp [maxLen])
  have KK : Kept gr (gr + 1) z ((((((((((((z).setCell ⟨gr, 0, none⟩ (.int .i64 D.kind)).setCell ⟨gr, 1, none⟩ (.int .i64 D.id)).setCell ⟨gr, 2, none⟩ (.slice S.cn.a S.cn.n S.cn.c)).setCell ⟨gr, 3, none⟩ (.slice S.sn.a S.sn.n S.sn.c)).setCell ⟨gr, 4, none⟩ (.int .i64 D.tick)).setCell ⟨gr, 5, none⟩ (.slice S.cookie.a S.cookie.n S.cookie.c)).setCell ⟨gr, 6, none⟩ (.slice S.proof.a S.proof.n S.proof.c)).setCell ⟨gr, 7, none⟩ (.int .i64 D.epoch)).setCell ⟨gr, 8, none⟩ (.int .i64 D.seq)).setCell ⟨gr, 9, none⟩ (.slice (some ⟨q, 0, none⟩) V c4)).setCell ⟨gr, 10, none⟩ (.slice S.tag.a S.tag.n S.tag.c)) := ((((((((((((Kept.refl gr (gr + 1) z)).trans (Kept.setCell _ gr 0 _)).trans (Kept.setCell _ gr 1 _)).trans (Kept.setCell _ gr 2 _)).trans (Kept.setCell _ gr 3 _)).trans (Kept.setCell _ gr 4 _)).trans (Kept.setCell _ gr 5 _)).trans (Kept.setCell _ gr 6 _)).trans (Kept.setCell _ gr 7 _)).trans (Kept.setCell _ gr 8 _)).trans (Kept.setCell _ gr 9 _)).trans (Kept.setCell _ gr 10 _)
  have IE := (OWz.out.carry KK (.inr (by have := HG.out; omega))).mono (lo' := w.heap.size) (hi' := ((((((((((((z).setCell ⟨gr, 0, none⟩ (.int .i64 D.kind)).setCell ⟨gr, 1, none⟩ (.int .i64 D.id)).setCell ⟨gr, 2, none⟩ (.slice S.cn.a S.cn.n S.cn.c)).setCell ⟨gr, 3, none⟩ (.slice S.sn.a S.sn.n S.sn.c)).setCell ⟨gr, 4, none⟩ (.int .i64 D.tick)).setCell ⟨gr, 5, none⟩ (.slice S.cookie.a S.cookie.n S.cookie.c)).setCell ⟨gr, 6, none⟩ (.slice S.proof.a S.proof.n S.proof.c)).setCell ⟨gr, 7, none⟩ (.int .i64 D.epoch)).setCell ⟨gr, 8, none⟩ (.int .i64 D.seq)).setCell ⟨gr, 9, none⟩ (.slice (some ⟨q, 0, none⟩) V c4)).setCell ⟨gr, 10, none⟩ (.slice S.tag.a S.tag.n S.tag.c)).heap.size) (by have := HG.out; omega) (Nat.le_trans (Nat.le_of_lt LGF.out) KK.size)
  have NE := (NS.out.carry KK (.inr (by have := HG.out; omega))).mono (lo' := w.heap.size) (hi' := ((((((((((((z).setCell ⟨gr, 0, none⟩ (.int .i64 D.kind)).setCell ⟨gr, 1, none⟩ (.int .i64 D.id)).setCell ⟨gr, 2, none⟩ (.slice S.cn.a S.cn.n S.cn.c)).setCell ⟨gr, 3, none⟩ (.slice S.sn.a S.sn.n S.sn.c)).setCell ⟨gr, 4, none⟩ (.int .i64 D.tick)).setCell ⟨gr, 5, none⟩ (.slice S.cookie.a S.cookie.n S.cookie.c)).setCell ⟨gr, 6, none⟩ (.slice S.proof.a S.proof.n S.proof.c)).setCell ⟨gr, 7, none⟩ (.int .i64 D.epoch)).setCell ⟨gr, 8, none⟩ (.int .i64 D.seq)).setCell ⟨gr, 9, none⟩ (.slice (some ⟨q, 0, none⟩) V c4)).setCell ⟨gr, 10, none⟩ (.slice S.tag.a S.tag.n S.tag.c)).heap.size) (by have := HG.out; omega) KK.size
  exact ret_any rfl rfl KE rfl (D := { D with body := l4 }) (S := { S with body := ⟨some ⟨q, 0, none⟩, V, c4⟩ }) ⟨IE.cn, IE.sn, IE.cookie, IE.proof, NE, IE.tag⟩ (Ready_setCell (Ready_setCell (Ready_setCell (Ready_setCell (Ready_setCell (Ready_setCell (Ready_setCell (Ready_setCell (Ready_setCell (Ready_setCell (Ready_setCell (Rz.out) _ _ (NP HG.out) (NW HG.out)) _ _ (NP HG.out) (NW HG.out)) _ _ (NP HG.out) (NW HG.out)) _ _ (NP HG.out) (NW HG.out)) _ _ (NP HG.out) (NW HG.out)) _ _ (NP HG.out) (NW HG.out)) _ _ (NP HG.out) (NW HG.out)) _ _ (NP HG.out) (NW HG.out)) _ _ (NP HG.out) (NW HG.out)) _ _ (NP HG.out) (NW HG.out)) _ _ (NP HG.out) (NW HG.out)) (But_setCell (But_setCell (But_setCell (But_setCell (But_setCell (But_setCell (But_setCell (But_setCell (But_setCell (But_setCell (But_setCell (Bz.out) _ _ (NZ HG.out)) _ _ (NZ HG.out)) _ _ (NZ HG.out)) _ _ (NZ HG.out)) _ _ (NZ HG.out)) _ _ (NZ HG.out)) _ _ (NZ HG.out)) _ _ (NZ HG.out)) _ _ (NZ HG.out)) _ _ (NZ HG.out)) _ _ (NZ HG.out))
 have e9 : (v == 9) = false := by simpa using k9
 by_cases k10 : v = 10
 ·
  subst k10
  clear va vb k0 e0 k1 e1 k2 e2 k3 e3 k4 e4 k5 e5 k6 e6 k7 e7 k8 e8 k9 e9
  have KFx2 := KF2
  have OWx2 := OW2
  have KRx2 := KR2
  have Bx2 := B2
  have Rx2 := R2
  clear KF2 OW2 KR2 B2 R2
  obtain ⟨xi, hxi⟩ : ∃ xi, x2.alloc (.cells #[.int .i64 0, .int .i64 15, .int .i64 17] 3) = xi := ⟨_, rfl⟩
  have HI := hid (hxi)
  have RI : Hid (Ready W0 a len cap l p xi) := by rw [← hxi]; exact Rx2.out.alloc _
  have BI : Hid (But p x2 xi) := by rw [← hxi]; exact (But.refl p x2).alloc _
  have LI : Hid (IntsAt xi x2.heap.size [0, 15, 17]) := by rw [← hxi]; exact ints_new x2 [0, 15, 17]
  have NI : Hid (x2.heap.size ≠ p) := by have := Rx2.out.hc.lt; show _ ≠ _; omega
  clear hxi
  go_wp2_with fail
  rw [HI.out]
  clear HI
  refine (intOfList RI.out x2.heap.size 3 [0, 15, 17] rfl LI.out NI.out (by omega) (by omega)).mono ?_
  rintro e x3 ⟨u, rfl, um, ry, by0⟩
  have Rx3 := hid (ry)
  have by1 : But p x2 x3 := BI.out.trans by0
  clear ry by0 RI BI LI NI Rx2
  have KPx3 : Kept p (p + 1) x2 x3 := Kept.of_grown by1
  have Bx3 := hid (Bx2.out.trans by1)
  have KFx3 := hid (KFx2.out.keep (KPx3.block gf KFx2.out.lt (by have := HG.out; omega)))
  have OWx3 := hid (OWx2.out.carry KPx3 (.inr (by have := HG.out; omega)))
  have KRx3 := hid (KRx2.out.keep (KPx3.block gr KRx2.out.lt (by have := HG.out; omega)))
  clear KPx3 by1 Bx2 KFx2 OWx2 KRx2
  simp only [List.mem_cons, List.mem_nil_iff, or_false] at um
  obtain ⟨V, hV⟩ := Int.eq_ofNat_of_zero_le (show 0 ≤ u by omega)
  subst hV
  have hV : V ≤ 1000 := by omega
  clear um
  go_wp2_with fail
  refine (bytesOf Rx3.out V hV).mono ?_
  rintro e x4 ⟨q, c4, l4, rfl, el, hb4, kq, w4, r4, b4⟩
  have Rx4 := hid (r4)
  have GQ : Hid (gf < q) := Nat.lt_of_lt_of_le KFx3.out.lt kq
  have W4 : Hid (Row x4 q c4 l4 ∧ V = l4.length ∧ Bytes l4) := ⟨w4, el, hb4⟩
  clear r4 Rx3 kq w4 el hb4
  have KPx4 : Kept p (p + 1) x3 x4 := Kept.of_grown b4
  have Bx4 := hid (Bx3.out.trans b4)
  have KFx4 := hid (KFx3.out.keep (KPx4.block gf KFx3.out.lt (by have := HG.out; omega)))
  have OWx4 := hid (OWx3.out.carry KPx4 (.inr (by have := HG.out; omega)))
  have KRx4 := hid (KRx3.out.keep (KPx4.block gr KRx3.out.lt (by have := HG.out; omega)))
  clear KPx4 b4 Bx3 KFx3 OWx3 KRx3
  have co : x4.cell? ⟨gf, 10, none⟩ = some (.slice S.tag.a S.tag.n S.tag.c) := KFx4.out.cell 10 rfl
  have fo := KFx4.out.frozen 10
  obtain ⟨z, hz⟩ : ∃ z, x4.setCell ⟨gf, 10, none⟩ (.slice (some ⟨q, 0, none⟩) V c4) = z := ⟨_, rfl⟩
  have HZ := hid (hz)
  have KFz : Hid (Blk z gf 25 [.int .i64 D.kind, .int .i64 D.id, .slice S.cn.a S.cn.n S.cn.c, .slice S.sn.a S.sn.n S.sn.c, .int .i64 D.tick, .slice S.cookie.a S.cookie.n S.cookie.c, .slice S.proof.a S.proof.n S.proof.c, .int .i64 D.epoch, .int .i64 D.seq, .slice S.body.a S.body.n S.body.c, .slice (some ⟨q, 0, none⟩) V c4]) := by rw [← hz]; exact KFx4.out.set 10 _ (by simp [maxLen])
  have OWz : Hid (FrIn z lo gf S D) := by rw [← hz]; exact OWx4.out.carry (Kept.setCell x4 gf 10 _) (.inl (Nat.le_refl _))
  have KRz : Hid (Blk z gr 25 [.int .i64 0, .int .i64 0, .slice none 0 0, .slice none 0 0, .int .i64 0, .slice none 0 0, .slice none 0 0, .int .i64 0, .int .i64 0, .slice none 0 0, .slice none 0 0]) := by rw [← hz]; exact KRx4.out.other (by show gr ≠ gf; have := HG.out; omega) _
  have Bz : Hid (But p w z) := by rw [← hz]; exact But_setCell Bx4.out _ _ (by show w.heap.size ≤ gf; have := HG.out; omega)
  have Rz : Hid (Ready W0 a len cap l p z) := by rw [← hz]; exact Ready_setCell Rx4.out _ _ (by show gf ≠ p; have := HG.out; omega) (by show W0.heap.size ≤ gf; have := HG.out; omega)
  have NS : Hid (SOwn z (gf + 1) z.heap.size ⟨some ⟨q, 0, none⟩, V, c4⟩ l4) := by
   have r : Row z q c4 l4 := by rw [← hz]; exact W4.out.1.keep (Below.heap_setCell x4 _ _ q (by show q ≠ gf; have := GQ.out; omega))
   exact SOwn.row r W4.out.2.1 W4.out.2.2 GQ.out r.lt
  clear hz KFx4 OWx4 KRx4 Bx4 Rx4 W4
  go_upto_region 25 with fail
  rw [HZ.out]
  clear co fo HZ
  have zc0 := KRz.out.cell 0 rfl
  have zf0 := KRz.out.frozen 0
  have zo0 : z.cell? ⟨gf, 0, none⟩ = some (.int .i64 D.kind) := KFz.out.cell 0 rfl
  have zc1 := KRz.out.cell 1 rfl
  have zf1 := KRz.out.frozen 1
  have zo1 : z.cell? ⟨gf, 1, none⟩ = some (.int .i64 D.id) := KFz.out.cell 1 rfl
  have zc2 := KRz.out.cell 2 rfl
  have zf2 := KRz.out.frozen 2
  have zo2 : z.cell? ⟨gf, 2, none⟩ = some (.slice S.cn.a S.cn.n S.cn.c) := KFz.out.cell 2 rfl
  have zc3 := KRz.out.cell 3 rfl
  have zf3 := KRz.out.frozen 3
  have zo3 : z.cell? ⟨gf, 3, none⟩ = some (.slice S.sn.a S.sn.n S.sn.c) := KFz.out.cell 3 rfl
  have zc4 := KRz.out.cell 4 rfl
  have zf4 := KRz.out.frozen 4
  have zo4 : z.cell? ⟨gf, 4, none⟩ = some (.int .i64 D.tick) := KFz.out.cell 4 rfl
  have zc5 := KRz.out.cell 5 rfl
  have zf5 := KRz.out.frozen 5
  have zo5 : z.cell? ⟨gf, 5, none⟩ = some (.slice S.cookie.a S.cookie.n S.cookie.c) := KFz.out.cell 5 rfl
  have zc6 := KRz.out.cell 6 rfl
  have zf6 := KRz.out.frozen 6
  have zo6 : z.cell? ⟨gf, 6, none⟩ = some (.slice S.proof.a S.proof.n S.proof.c) := KFz.out.cell 6 rfl
  have zc7 := KRz.out.cell 7 rfl
  have zf7 := KRz.out.frozen 7
  have zo7 : z.cell? ⟨gf, 7, none⟩ = some (.int .i64 D.epoch) := KFz.out.cell 7 rfl
  have zc8 := KRz.out.cell 8 rfl
  have zf8 := KRz.out.frozen 8
  have zo8 : z.cell? ⟨gf, 8, none⟩ = some (.int .i64 D.seq) := KFz.out.cell 8 rfl
  have zc9 := KRz.out.cell 9 rfl
  have zf9 := KRz.out.frozen 9
  have zo9 : z.cell? ⟨gf, 9, none⟩ = some (.slice S.body.a S.body.n S.body.c) := KFz.out.cell 9 rfl
  have zc10 := KRz.out.cell 10 rfl
  have zf10 := KRz.out.frozen 10
  have zo10 : z.cell? ⟨gf, 10, none⟩ = some (.slice (some ⟨q, 0, none⟩) V c4) := KFz.out.cell 10 rfl
  have ne1 : gr ≠ gf := by have := HG.out; omega
  have ne2 : gf ≠ gr := by have := HG.out; omega
  have LGF : Hid (gf < z.heap.size) := KFz.out.lt
  go_wp2
  have KE : Blk ((((((((((((z).setCell ⟨gr, 0, none⟩ (.int .i64 D.kind)).setCell ⟨gr, 1, none⟩ (.int .i64 D.id)).setCell ⟨gr, 2, none⟩ (.slice S.cn.a S.cn.n S.cn.c)).setCell ⟨gr, 3, none⟩ (.slice S.sn.a S.sn.n S.sn.c)).setCell ⟨gr, 4, none⟩ (.int .i64 D.tick)).setCell ⟨gr, 5, none⟩ (.slice S.cookie.a S.cookie.n S.cookie.c)).setCell ⟨gr, 6, none⟩ (.slice S.proof.a S.proof.n S.proof.c)).setCell ⟨gr, 7, none⟩ (.int .i64 D.epoch)).setCell ⟨gr, 8, none⟩ (.int .i64 D.seq)).setCell ⟨gr, 9, none⟩ (.slice S.body.a S.body.n S.body.c)).setCell ⟨gr, 10, none⟩ (.slice (some ⟨q, 0, none⟩) V c4)) gr 25 [.int .i64 D.kind, .int .i64 D.id, .slice S.cn.a S.cn.n S.cn.c, .slice S.sn.a S.sn.n S.sn.c, .int .i64 D.tick, .slice S.cookie.a S.cookie.n S.cookie.c, .slice S.proof.a S.proof.n S.proof.c, .int .i64 D.epoch, .int .i64 D.seq, .slice S.body.a S.body.n S.body.c, .slice (some ⟨q, 0, none⟩) V c4] := (((((((((((KRz.out).set 0 _ (by simp [maxLen])).set 1 _ (by simp [maxLen])).set 2 _ (by simp [maxLen])).set 3 _ (by simp [maxLen])).set 4 _ (by simp [maxLen])).set 5 _ (by simp [maxLen])).set 6 _ (by simp [maxLen])).set 7 _ (by simp [maxLen])).set 8 _ (by simp [maxLen])).set 9 _ (by simp [maxLen])).set 10 _ (by simp [maxLen])
  have KK : Kept gr (gr + 1) z ((((((((((((z).setCell ⟨gr, 0, none⟩ (.int .i64 D.kind)).setCell ⟨gr, 1, none⟩ (.int .i64 D.id)).setCell ⟨gr, 2, none⟩ (.slice S.cn.a S.cn.n S.cn.c)).setCell ⟨gr, 3, none⟩ (.slice S.sn.a S.sn.n S.sn.c)).setCell ⟨gr, 4, none⟩ (.int .i64 D.tick)).setCell ⟨gr, 5, none⟩ (.slice S.cookie.a S.cookie.n S.cookie.c)).setCell ⟨gr, 6, none⟩ (.slice S.proof.a S.proof.n S.proof.c)).setCell ⟨gr, 7, none⟩ (.int .i64 D.epoch)).setCell ⟨gr, 8, none⟩ (.int .i64 D.seq)).setCell ⟨gr, 9, none⟩ (.slice S.body.a S.body.n S.body.c)).setCell ⟨gr, 10, none⟩ (.slice (some ⟨q, 0, none⟩) V c4)) := ((((((((((((Kept.refl gr (gr + 1) z)).trans (Kept.setCell _ gr 0 _)).trans (Kept.setCell _ gr 1 _)).trans (Kept.setCell _ gr 2 _)).trans (Kept.setCell _ gr 3 _)).trans (Kept.setCell _ gr 4 _)).trans (Kept.setCell _ gr 5 _)).trans (Kept.setCell _ gr 6 _)).trans (Kept.setCell _ gr 7 _)).trans (Kept.setCell _ gr 8 _)).trans (Kept.setCell _ gr 9 _)).trans (Kept.setCell _ gr 10 _)
  have IE := (OWz.out.carry KK (.inr (by have := HG.out; omega))).mono (lo' := w.heap.size) (hi' := ((((((((((((z).setCell ⟨gr, 0, none⟩ (.int .i64 D.kind)).setCell ⟨gr, 1, none⟩ (.int .i64 D.id)).setCell ⟨gr, 2, none⟩ (.slice S.cn.a S.cn.n S.cn.c)).setCell ⟨gr, 3, none⟩ (.slice S.sn.a S.sn.n S.sn.c)).setCell ⟨gr, 4, none⟩ (.int .i64 D.tick)).setCell ⟨gr, 5, none⟩ (.slice S.cookie.a S.cookie.n S.cookie.c)).setCell ⟨gr, 6, none⟩ (.slice S.proof.a S.proof.n S.proof.c)).setCell ⟨gr, 7, none⟩ (.int .i64 D.epoch)).setCell ⟨gr, 8, none⟩ (.int .i64 D.seq)).setCell ⟨gr, 9, none⟩ (.slice S.body.a S.body.n S.body.c)).setCell ⟨gr, 10, none⟩ (.slice (some ⟨q, 0, none⟩) V c4)).heap.size) (by have := HG.out; omega) (Nat.le_trans (Nat.le_of_lt LGF.out) KK.size)
  have NE := (NS.out.carry KK (.inr (by have := HG.out; omega))).mono (lo' := w.heap.size) (hi' := ((((((((((((z).setCell ⟨gr, 0, none⟩ (.int .i64 D.kind)).setCell ⟨gr, 1, none⟩ (.int .i64 D.id)).setCell ⟨gr, 2, none⟩ (.slice S.cn.a S.cn.n S.cn.c)).setCell ⟨gr, 3, none⟩ (.slice S.sn.a S.sn.n S.sn.c)).setCell ⟨gr, 4, none⟩ (.int .i64 D.tick)).setCell ⟨gr, 5, none⟩ (.slice S.cookie.a S.cookie.n S.cookie.c)).setCell ⟨gr, 6, none⟩ (.slice S.proof.a S.proof.n S.proof.c)).setCell ⟨gr, 7, none⟩ (.int .i64 D.epoch)).setCell ⟨gr, 8, none⟩ (.int .i64 D.seq)).setCell ⟨gr, 9, none⟩ (.slice S.body.a S.body.n S.body.c)).setCell ⟨gr, 10, none⟩ (.slice (some ⟨q, 0, none⟩) V c4)).heap.size) (by have := HG.out; omega) KK.size
  exact ret_any rfl rfl KE rfl (D := { D with tag := l4 }) (S := { S with tag := ⟨some ⟨q, 0, none⟩, V, c4⟩ }) ⟨IE.cn, IE.sn, IE.cookie, IE.proof, IE.body, NE⟩ (Ready_setCell (Ready_setCell (Ready_setCell (Ready_setCell (Ready_setCell (Ready_setCell (Ready_setCell (Ready_setCell (Ready_setCell (Ready_setCell (Ready_setCell (Rz.out) _ _ (NP HG.out) (NW HG.out)) _ _ (NP HG.out) (NW HG.out)) _ _ (NP HG.out) (NW HG.out)) _ _ (NP HG.out) (NW HG.out)) _ _ (NP HG.out) (NW HG.out)) _ _ (NP HG.out) (NW HG.out)) _ _ (NP HG.out) (NW HG.out)) _ _ (NP HG.out) (NW HG.out)) _ _ (NP HG.out) (NW HG.out)) _ _ (NP HG.out) (NW HG.out)) _ _ (NP HG.out) (NW HG.out)) (But_setCell (But_setCell (But_setCell (But_setCell (But_setCell (But_setCell (But_setCell (But_setCell (But_setCell (But_setCell (But_setCell (Bz.out) _ _ (NZ HG.out)) _ _ (NZ HG.out)) _ _ (NZ HG.out)) _ _ (NZ HG.out)) _ _ (NZ HG.out)) _ _ (NZ HG.out)) _ _ (NZ HG.out)) _ _ (NZ HG.out)) _ _ (NZ HG.out)) _ _ (NZ HG.out)) _ _ (NZ HG.out))
 have e10 : (v == 10) = false := by simpa using k10
 clear va vb k0 k1 k2 k3 k4 k5 k6 k7 k8 k9 k10
 have KFx2 := KF2
 have OWx2 := OW2
 have KRx2 := KR2
 have Bx2 := B2
 have Rx2 := R2
 clear KF2 OW2 KR2 B2 R2
 go_upto_region 25 with fail
 have zc0 := KRx2.out.cell 0 rfl
 have zf0 := KRx2.out.frozen 0
 have zo0 : x2.cell? ⟨gf, 0, none⟩ = some (.int .i64 D.kind) := KFx2.out.cell 0 rfl
 have zc1 := KRx2.out.cell 1 rfl
 have zf1 := KRx2.out.frozen 1
 have zo1 : x2.cell? ⟨gf, 1, none⟩ = some (.int .i64 D.id) := KFx2.out.cell 1 rfl
 have zc2 := KRx2.out.cell 2 rfl
 have zf2 := KRx2.out.frozen 2
 have zo2 : x2.cell? ⟨gf, 2, none⟩ = some (.slice S.cn.a S.cn.n S.cn.c) := KFx2.out.cell 2 rfl
 have zc3 := KRx2.out.cell 3 rfl
 have zf3 := KRx2.out.frozen 3
 have zo3 : x2.cell? ⟨gf, 3, none⟩ = some (.slice S.sn.a S.sn.n S.sn.c) := KFx2.out.cell 3 rfl
 have zc4 := KRx2.out.cell 4 rfl
 have zf4 := KRx2.out.frozen 4
 have zo4 : x2.cell? ⟨gf, 4, none⟩ = some (.int .i64 D.tick) := KFx2.out.cell 4 rfl
 have zc5 := KRx2.out.cell 5 rfl
 have zf5 := KRx2.out.frozen 5
 have zo5 : x2.cell? ⟨gf, 5, none⟩ = some (.slice S.cookie.a S.cookie.n S.cookie.c) := KFx2.out.cell 5 rfl
 have zc6 := KRx2.out.cell 6 rfl
 have zf6 := KRx2.out.frozen 6
 have zo6 : x2.cell? ⟨gf, 6, none⟩ = some (.slice S.proof.a S.proof.n S.proof.c) := KFx2.out.cell 6 rfl
 have zc7 := KRx2.out.cell 7 rfl
 have zf7 := KRx2.out.frozen 7
 have zo7 : x2.cell? ⟨gf, 7, none⟩ = some (.int .i64 D.epoch) := KFx2.out.cell 7 rfl
 have zc8 := KRx2.out.cell 8 rfl
 have zf8 := KRx2.out.frozen 8
 have zo8 : x2.cell? ⟨gf, 8, none⟩ = some (.int .i64 D.seq) := KFx2.out.cell 8 rfl
 have zc9 := KRx2.out.cell 9 rfl
 have zf9 := KRx2.out.frozen 9
 have zo9 : x2.cell? ⟨gf, 9, none⟩ = some (.slice S.body.a S.body.n S.body.c) := KFx2.out.cell 9 rfl
 have zc10 := KRx2.out.cell 10 rfl
 have zf10 := KRx2.out.frozen 10
 have zo10 : x2.cell? ⟨gf, 10, none⟩ = some (.slice S.tag.a S.tag.n S.tag.c) := KFx2.out.cell 10 rfl
 have ne1 : gr ≠ gf := by have := HG.out; omega
 have ne2 : gf ≠ gr := by have := HG.out; omega
 have LGF : Hid (gf < x2.heap.size) := KFx2.out.lt
 go_wp2
 have KE : Blk ((((((((((((x2).setCell ⟨gr, 0, none⟩ (.int .i64 D.kind)).setCell ⟨gr, 1, none⟩ (.int .i64 D.id)).setCell ⟨gr, 2, none⟩ (.slice S.cn.a S.cn.n S.cn.c)).setCell ⟨gr, 3, none⟩ (.slice S.sn.a S.sn.n S.sn.c)).setCell ⟨gr, 4, none⟩ (.int .i64 D.tick)).setCell ⟨gr, 5, none⟩ (.slice S.cookie.a S.cookie.n S.cookie.c)).setCell ⟨gr, 6, none⟩ (.slice S.proof.a S.proof.n S.proof.c)).setCell ⟨gr, 7, none⟩ (.int .i64 D.epoch)).setCell ⟨gr, 8, none⟩ (.int .i64 D.seq)).setCell ⟨gr, 9, none⟩ (.slice S.body.a S.body.n S.body.c)).setCell ⟨gr, 10, none⟩ (.slice S.tag.a S.tag.n S.tag.c)) gr 25 [.int .i64 D.kind, .int .i64 D.id, .slice S.cn.a S.cn.n S.cn.c, .slice S.sn.a S.sn.n S.sn.c, .int .i64 D.tick, .slice S.cookie.a S.cookie.n S.cookie.c, .slice S.proof.a S.proof.n S.proof.c, .int .i64 D.epoch, .int .i64 D.seq, .slice S.body.a S.body.n S.body.c, .slice S.tag.a S.tag.n S.tag.c] := (((((((((((KRx2.out).set 0 _ (by simp [maxLen])).set 1 _ (by simp [maxLen])).set 2 _ (by simp [maxLen])).set 3 _ (by simp [maxLen])).set 4 _ (by simp [maxLen])).set 5 _ (by simp [maxLen])).set 6 _ (by simp [maxLen])).set 7 _ (by simp [maxLen])).set 8 _ (by simp [maxLen])).set 9 _ (by simp [maxLen])).set 10 _ (by simp [maxLen])
 have KK : Kept gr (gr + 1) x2 ((((((((((((x2).setCell ⟨gr, 0, none⟩ (.int .i64 D.kind)).setCell ⟨gr, 1, none⟩ (.int .i64 D.id)).setCell ⟨gr, 2, none⟩ (.slice S.cn.a S.cn.n S.cn.c)).setCell ⟨gr, 3, none⟩ (.slice S.sn.a S.sn.n S.sn.c)).setCell ⟨gr, 4, none⟩ (.int .i64 D.tick)).setCell ⟨gr, 5, none⟩ (.slice S.cookie.a S.cookie.n S.cookie.c)).setCell ⟨gr, 6, none⟩ (.slice S.proof.a S.proof.n S.proof.c)).setCell ⟨gr, 7, none⟩ (.int .i64 D.epoch)).setCell ⟨gr, 8, none⟩ (.int .i64 D.seq)).setCell ⟨gr, 9, none⟩ (.slice S.body.a S.body.n S.body.c)).setCell ⟨gr, 10, none⟩ (.slice S.tag.a S.tag.n S.tag.c)) := ((((((((((((Kept.refl gr (gr + 1) x2)).trans (Kept.setCell _ gr 0 _)).trans (Kept.setCell _ gr 1 _)).trans (Kept.setCell _ gr 2 _)).trans (Kept.setCell _ gr 3 _)).trans (Kept.setCell _ gr 4 _)).trans (Kept.setCell _ gr 5 _)).trans (Kept.setCell _ gr 6 _)).trans (Kept.setCell _ gr 7 _)).trans (Kept.setCell _ gr 8 _)).trans (Kept.setCell _ gr 9 _)).trans (Kept.setCell _ gr 10 _)
 have IE := (OWx2.out.carry KK (.inr (by have := HG.out; omega))).mono (lo' := w.heap.size) (hi' := ((((((((((((x2).setCell ⟨gr, 0, none⟩ (.int .i64 D.kind)).setCell ⟨gr, 1, none⟩ (.int .i64 D.id)).setCell ⟨gr, 2, none⟩ (.slice S.cn.a S.cn.n S.cn.c)).setCell ⟨gr, 3, none⟩ (.slice S.sn.a S.sn.n S.sn.c)).setCell ⟨gr, 4, none⟩ (.int .i64 D.tick)).setCell ⟨gr, 5, none⟩ (.slice S.cookie.a S.cookie.n S.cookie.c)).setCell ⟨gr, 6, none⟩ (.slice S.proof.a S.proof.n S.proof.c)).setCell ⟨gr, 7, none⟩ (.int .i64 D.epoch)).setCell ⟨gr, 8, none⟩ (.int .i64 D.seq)).setCell ⟨gr, 9, none⟩ (.slice S.body.a S.body.n S.body.c)).setCell ⟨gr, 10, none⟩ (.slice S.tag.a S.tag.n S.tag.c)).heap.size) (by have := HG.out; omega) (Nat.le_trans (Nat.le_of_lt LGF.out) KK.size)
 exact ret_any rfl rfl KE rfl (D := D) (S := S) ⟨IE.cn, IE.sn, IE.cookie, IE.proof, IE.body, IE.tag⟩ (Ready_setCell (Ready_setCell (Ready_setCell (Ready_setCell (Ready_setCell (Ready_setCell (Ready_setCell (Ready_setCell (Ready_setCell (Ready_setCell (Ready_setCell (Rx2.out) _ _ (NP HG.out) (NW HG.out)) _ _ (NP HG.out) (NW HG.out)) _ _ (NP HG.out) (NW HG.out)) _ _ (NP HG.out) (NW HG.out)) _ _ (NP HG.out) (NW HG.out)) _ _ (NP HG.out) (NW HG.out)) _ _ (NP HG.out) (NW HG.out)) _ _ (NP HG.out) (NW HG.out)) _ _ (NP HG.out) (NW HG.out)) _ _ (NP HG.out) (NW HG.out)) _ _ (NP HG.out) (NW HG.out)) (But_setCell (But_setCell (But_setCell (But_setCell (But_setCell (But_setCell (But_setCell (But_setCell (But_setCell (But_setCell (But_setCell (Bx2.out) _ _ (NZ HG.out)) _ _ (NZ HG.out)) _ _ (NZ HG.out)) _ _ (NZ HG.out)) _ _ (NZ HG.out)) _ _ (NZ HG.out)) _ _ (NZ HG.out)) _ _ (NZ HG.out)) _ _ (NZ HG.out)) _ _ (NZ HG.out)) _ _ (NZ HG.out))
end Go.Proofs.YtpenhliaelhnoaaGreatDoor.FrDa
