/-
  What spec.l13Draw, l13Any, DrawTimerSet and DrawTimerNext give: timers, right or not.
-/
import Derived.Test.YtadlckgaeljdkaaDrawB
import Derived.Test.YtadlckgaeljdkaaDrN
import Derived.Test.YtadlckgaeljdkaaTmS
import Derived.Test.YtadlckgaeljdkaaShp
import Derived.Deep.RegionHeld3
namespace Go.Proofs.Ytadlckgaeljdkaa.DrTm
open Go.RowKit Go.Proofs.Ytadlckgaeljdkaa.Mem Go.Proofs.Ytadlckgaeljdkaa.App Go.Proofs.Ytadlckgaeljdkaa.Blk Go.Proofs.Ytadlckgaeljdkaa.Zone Go.Proofs.Ytadlckgaeljdkaa.Draw Go.Proofs.Ytadlckgaeljdkaa.Res Go.Proofs.Ytadlckgaeljdkaa.DrN Go.Proofs.Ytadlckgaeljdkaa.TmP Go.Proofs.Ytadlckgaeljdkaa.TmE Go.Proofs.Ytadlckgaeljdkaa.Shp
set_option maxRecDepth 100000 in
theorem tm_kept (w : World) (g : Nat) (D : TmD) : Kept g (g + 1) w ((((w.setCell ⟨g, 0, none⟩ (.bool D.on)).setCell ⟨g, 1, none⟩ (.int .i64 D.due)).setCell ⟨g, 2, none⟩ (.int .i64 D.wait)).setCell ⟨g, 3, none⟩ (.int .i64 D.tries)) := (((Kept.setCell _ _ _ _).trans (Kept.setCell _ _ _ _)).trans (Kept.setCell _ _ _ _)).trans (Kept.setCell _ _ _ _)
set_option maxRecDepth 100000 in
theorem tm_size (w : World) (g : Nat) (D : TmD) : ((((w.setCell ⟨g, 0, none⟩ (.bool D.on)).setCell ⟨g, 1, none⟩ (.int .i64 D.due)).setCell ⟨g, 2, none⟩ (.int .i64 D.wait)).setCell ⟨g, 3, none⟩ (.int .i64 D.tries)).heap.size = w.heap.size := by simp
set_option maxRecDepth 100000 in
theorem cell_keep {w w' : World} {q j : Nat} (e : w'.heap[q]? = w.heap[q]?) : w'.cell? ⟨q, j, none⟩ = w.cell? ⟨q, j, none⟩ := by simp only [World.cell?, e]
/-- A timer was drawn. -/
def DrewT (W0 : World) (a : Option Addr) (len cap : Nat) (l : List Int) (p : Nat) (w : World) : Ending → World → Prop := fun e w' => ∃ D : TmD, e = .returned (tmV D) ∧ Ready W0 a len cap l p w' ∧ But p w w'

set_option maxRecDepth 100000 in
set_option maxHeartbeats 8000000 in
theorem l13Draw (now : Int) {W0 : World} {a : Option Addr} {len cap : Nat} {l : List Int} {p : Nat} {w : World} (h : Ready W0 a len cap l p w) :
    Calls Try.prog 34 #[.pointer (some ⟨p, 0, none⟩), .int .i64 now] w (DrewT W0 a len cap l p w) := by
  have HP : Hid (p < w.heap.size ∧ W0.heap.size ≤ p) := ⟨h.hc.lt, h.hp⟩
  have R0 : Hid (Ready W0 a len cap l p w) := h
  have B0 : Hid (But p w w) := But.refl p w
  clear h
  obtain ⟨x1, hx1⟩ : ∃ x1, (w.alloc (.cells #[.bool false, .int .i64 0, .int .i64 0, .int .i64 0] 26)) = x1 := ⟨_, rfl⟩
  have HWA : Hid ((w.alloc (.cells #[.bool false, .int .i64 0, .int .i64 0, .int .i64 0] 26)) = x1) := hx1
  have b1 : Below w.heap.size w x1 := by rw [← hx1]; exact ((Below.refl _ _).alloc (Nat.le_refl _) _)
  have KON : Blk x1 (w.heap.size) 26 [.bool false, .int .i64 0, .int .i64 0, .int .i64 0] := by
    have q := (Blk.new w 26 [.bool false, .int .i64 0, .int .i64 0, .int .i64 0])
    skip
    rw [← hx1]; exact q
  have SZA : x1.heap.size = w.heap.size + 1 := by rw [← hx1]; simp
  clear hx1
  have L1 : Hid (w.heap.size ≤ x1.heap.size) := b1.size
  have R1 : Hid (Ready W0 a len cap l p x1) := rdyL R0.out b1
  have B1 : Hid (But p w x1) := butL B0.out b1
  clear R0 B0 b1
  go_enter Try.func34, Try.ntmps34
  go_upto_region 1 with fail
  rw [HWA.out]
  obtain ⟨go, hgo⟩ : ∃ g, w.heap.size = g := ⟨_, rfl⟩
  have GA : Hid (w.heap.size = go ∧ x1.heap.size = go + 1) := ⟨hgo, by omega⟩
  rw [hgo] at KON
  rw [hgo]
  clear HWA SZA hgo
  have KO1 : Hid (Blk x1 go 26 [.bool false, .int .i64 0, .int .i64 0, .int .i64 0]) := KON
  clear KON
  go_wp2_with fail
  refine (TmS.specTimerSet now x1).mono ?_
  rintro e x2 ⟨rfl, b⟩
  have L2 : Hid (x1.heap.size ≤ x2.heap.size) := b.size
  have R2 : Hid (Ready W0 a len cap l p x2) := rdyL R1.out b
  have B2 : Hid (But p w x2) := butL B1.out b
  have KO2 : Hid (Blk x2 go 26 [.bool false, .int .i64 0, .int .i64 0, .int .i64 0]) := KO1.out.later b
  clear R1 B1 KO1 b
  obtain ⟨T0, hT0⟩ : ∃ X, setT now = X := ⟨_, rfl⟩
  rw [hT0]
  clear hT0
  obtain ⟨x3, hx3⟩ : ∃ x3, x2.alloc (.cells #[.bool T0.on, .int .i64 T0.due, .int .i64 T0.wait, .int .i64 T0.tries] 26) = x3 := ⟨_, rfl⟩
  have HW3 : Hid (x2.alloc (.cells #[.bool T0.on, .int .i64 T0.due, .int .i64 T0.wait, .int .i64 T0.tries] 26) = x3) := hx3
  have b3 : Below x2.heap.size x2 x3 := by rw [← hx3]; exact (Below.refl _ _).alloc (Nat.le_refl _) _
  have KN : Blk x3 x2.heap.size 26 [.bool T0.on, .int .i64 T0.due, .int .i64 T0.wait, .int .i64 T0.tries] := by rw [← hx3]; exact Blk.new x2 _ _
  have HSZ3 : Hid (x3.heap.size = x2.heap.size + 1) := by rw [← hx3]; show _ = _; simp
  clear hx3
  have L3 : Hid (x2.heap.size ≤ x3.heap.size) := b3.size
  have R3 : Hid (Ready W0 a len cap l p x3) := rdyL R2.out b3
  have B3 : Hid (But p w x3) := butL B2.out b3
  have KO3 : Hid (Blk x3 go 26 [.bool false, .int .i64 0, .int .i64 0, .int .i64 0]) := KO2.out.later b3
  clear R2 B2 KO2 b3
  unfold tmV
  go_upto_region 2 with fail
  rw [HW3.out]
  obtain ⟨ge, hge⟩ : ∃ g, x2.heap.size = g := ⟨_, rfl⟩
  have Gge : Hid (x2.heap.size = ge ∧ x3.heap.size = ge + 1) := ⟨hge, by rw [← hge]; exact HSZ3.out⟩
  rw [hge] at KN ⊢
  clear HW3 HSZ3 hge
  have KE3 : Hid (Blk x3 ge 26 [.bool T0.on, .int .i64 T0.due, .int .i64 T0.wait, .int .i64 T0.tries]) := KN
  clear KN
  go_wp2_with fail
  refine (Draw.below R3.out 6 (by omega) (by omega)).mono ?_
  rintro e x4 ⟨v, rfl, va, vb, r, b⟩
  have VBv : Hid (0 ≤ v ∧ v < 6) := ⟨va, vb⟩
  clear va vb
  have L4 : Hid (x3.heap.size ≤ x4.heap.size) := b.size
  have KQ : Kept p (p + 1) x3 x4 := Kept.of_grown b
  have R4 : Hid (Ready W0 a len cap l p x4) := r
  have B4 : Hid (But p w x4) := B3.out.trans b
  have KO4 : Hid (Blk x4 go 26 [.bool false, .int .i64 0, .int .i64 0, .int .i64 0]) := KO3.out.keep (KQ.block _ KO3.out.lt (by have := HP.out; have := L1.out; have := GA.out; have := L2.out; have := L3.out; have := Gge.out; have := L4.out; omega))
  have KE4 : Hid (Blk x4 ge 26 [.bool T0.on, .int .i64 T0.due, .int .i64 T0.wait, .int .i64 T0.tries]) := KE3.out.keep (KQ.block _ KE3.out.lt (by have := HP.out; have := L1.out; have := GA.out; have := L2.out; have := L3.out; have := Gge.out; have := L4.out; omega))
  clear R3 B3 KO3 KE3 b
  clear KQ r
  obtain ⟨V, hV⟩ : ∃ V : Nat, v = (V : Int) := Int.eq_ofNat_of_zero_le (by have := VBv.out; omega)
  subst hV
  have HV : Hid (V ≤ 6) := by have := VBv.out; show _ ≤ _; omega
  go_wp2
  go_loopw [6] (fun i wr => ∃ (k : Nat) (T : TmD), k ≤ 6 ∧ i = .int .i64 k ∧ Blk wr ge 26 [.bool T.on, .int .i64 T.due, .int .i64 T.wait, .int .i64 T.tries] ∧ Blk wr go 26 [.bool false, .int .i64 0, .int .i64 0, .int .i64 0] ∧ Ready W0 a len cap l p wr ∧ But p w wr) (fun i _ => (intOf i).toNat)
  case atStart =>
    exact ⟨V, T0, HV.out, rfl, KE4.out, KO4.out, R4.out, B4.out⟩
  case round =>
    obtain ⟨k, T, hk, rfl, ke, ko, rd, bt⟩ := hrel
    clear R4 B4 KO4 KE4
    have KE : Hid (Blk wr ge 26 [.bool T.on, .int .i64 T.due, .int .i64 T.wait, .int .i64 T.tries]) := ke
    have KO : Hid (Blk wr go 26 [.bool false, .int .i64 0, .int .i64 0, .int .i64 0]) := ko
    have RR : Hid (Ready W0 a len cap l p wr) := rd
    have BB : Hid (But p w wr) := bt
    have NN : Hid (p < go ∧ w.heap.size ≤ go ∧ p < ge ∧ w.heap.size ≤ ge ∧ go ≠ ge) := by have := HP.out; have := L1.out; have := GA.out; have := L2.out; have := L3.out; have := Gge.out; have := L4.out; show _ ∧ _; omega
    clear ke ko rd bt
    obtain rfl | ⟨j, rfl⟩ : k = 0 ∨ ∃ j, k = j + 1 := by cases k with | zero => exact .inl rfl | succ j => exact .inr ⟨j, rfl⟩
    · have c0 := KE.out.cell 0 rfl
      have c1 := KE.out.cell 1 rfl
      have c2 := KE.out.cell 2 rfl
      have c3 := KE.out.cell 3 rfl
      have o0 := KO.out.cell 0 rfl
      have f0 := KO.out.frozen 0
      have o1 := KO.out.cell 1 rfl
      have f1 := KO.out.frozen 1
      have o2 := KO.out.cell 2 rfl
      have f2 := KO.out.frozen 2
      have o3 := KO.out.cell 3 rfl
      have f3 := KO.out.frozen 3
      go_wp2
      obtain ⟨k1, _⟩ := tm_stored T KO.out
      have KP := tm_kept wr go T
      exact bodyPost_ret (v := tmV T) (res1 rfl (is_cell rfl k1 aggTm)) rfl ⟨T, rfl, rdyK RR.out KP NN.out.1, butK BB.out KP NN.out.2.1⟩
    · have c0 := KE.out.cell 0 rfl
      have c1 := KE.out.cell 1 rfl
      have c2 := KE.out.cell 2 rfl
      have c3 := KE.out.cell 3 rfl
      have hpos : ((j + 1 : Nat) : Int) > 0 := by omega
      go_wp2_with fail
      refine (TmS.specTimerNext T T.due wr).mono ?_
      rintro e wn ⟨rfl, b⟩
      obtain ⟨N, hN⟩ : ∃ X, nextT T T.due = X := ⟨_, rfl⟩
      rw [hN]
      have KE1 : Hid (Blk wn ge 26 [.bool T.on, .int .i64 T.due, .int .i64 T.wait, .int .i64 T.tries]) := KE.out.later b
      have KO1 : Hid (Blk wn go 26 [.bool false, .int .i64 0, .int .i64 0, .int .i64 0]) := KO.out.later b
      have R1 : Hid (Ready W0 a len cap l p wn) := rdyL RR.out b
      have B1 : Hid (But p w wn) := butL BB.out b
      clear KE KO RR BB b hN c0 c1 c2 c3
      unfold tmV
      have o0 := KE1.out.cell 0 rfl
      have f0 := KE1.out.frozen 0
      have o1 := KE1.out.cell 1 rfl
      have f1 := KE1.out.frozen 1
      have o2 := KE1.out.cell 2 rfl
      have f2 := KE1.out.frozen 2
      have o3 := KE1.out.cell 3 rfl
      have f3 := KE1.out.frozen 3
      obtain ⟨k1, _⟩ := tm_stored N KE1.out
      have KP := tm_kept wn ge N
      have k2 := KO1.out.keep (KP.block go KO1.out.lt (by have := NN.out; omega))
      have r2 := rdyK R1.out KP NN.out.2.2.1
      have b2 := butK B1.out KP NN.out.2.2.2.1
      obtain ⟨wz, hz⟩ : ∃ X, ((((wn.setCell ⟨ge, 0, none⟩ (.bool N.on)).setCell ⟨ge, 1, none⟩ (.int .i64 N.due)).setCell ⟨ge, 2, none⟩ (.int .i64 N.wait)).setCell ⟨ge, 3, none⟩ (.int .i64 N.tries)) = X := ⟨_, rfl⟩
      have HZ : Hid (((((wn.setCell ⟨ge, 0, none⟩ (.bool N.on)).setCell ⟨ge, 1, none⟩ (.int .i64 N.due)).setCell ⟨ge, 2, none⟩ (.int .i64 N.wait)).setCell ⟨ge, 3, none⟩ (.int .i64 N.tries)) = wz) := hz
      rw [hz] at k1 k2 r2 b2
      have K3 : Hid (Blk wz ge 26 [.bool N.on, .int .i64 N.due, .int .i64 N.wait, .int .i64 N.tries]) := k1
      have K4 : Hid (Blk wz go 26 [.bool false, .int .i64 0, .int .i64 0, .int .i64 0]) := k2
      have R3 : Hid (Ready W0 a len cap l p wz) := r2
      have B3 : Hid (But p w wz) := b2
      clear k1 k2 r2 b2 hz KP
      go_wp2
      rw [HZ.out]
      go_roundw
      case rel => exact ⟨j, N, by omega, by go_num, K3.out, K4.out, R3.out, B3.out⟩
      case measure => simp [intOf]; try omega

set_option maxRecDepth 100000 in
set_option maxHeartbeats 8000000 in
theorem l13Any {W0 : World} {a : Option Addr} {len cap : Nat} {l : List Int} {p : Nat} {w : World} (h : Ready W0 a len cap l p w) :
    Calls Try.prog 31 #[.pointer (some ⟨p, 0, none⟩)] w (DrewT W0 a len cap l p w) := by
  have HP : Hid (p < w.heap.size ∧ W0.heap.size ≤ p) := ⟨h.hc.lt, h.hp⟩
  have R0 : Hid (Ready W0 a len cap l p w) := h
  have B0 : Hid (But p w w) := But.refl p w
  clear h
  obtain ⟨x1, hx1⟩ : ∃ x1, (w.alloc (.cells #[.bool false, .int .i64 0, .int .i64 0, .int .i64 0] 26)) = x1 := ⟨_, rfl⟩
  have HWA : Hid ((w.alloc (.cells #[.bool false, .int .i64 0, .int .i64 0, .int .i64 0] 26)) = x1) := hx1
  have b1 : Below w.heap.size w x1 := by rw [← hx1]; exact ((Below.refl _ _).alloc (Nat.le_refl _) _)
  have KON : Blk x1 (w.heap.size) 26 [.bool false, .int .i64 0, .int .i64 0, .int .i64 0] := by
    have q := (Blk.new w 26 [.bool false, .int .i64 0, .int .i64 0, .int .i64 0])
    skip
    rw [← hx1]; exact q
  have SZA : x1.heap.size = w.heap.size + 1 := by rw [← hx1]; simp
  clear hx1
  have L1 : Hid (w.heap.size ≤ x1.heap.size) := b1.size
  have R1 : Hid (Ready W0 a len cap l p x1) := rdyL R0.out b1
  have B1 : Hid (But p w x1) := butL B0.out b1
  clear R0 B0 b1
  go_enter Try.func31, Try.ntmps31
  go_upto_region 1 with fail
  rw [HWA.out]
  obtain ⟨go, hgo⟩ : ∃ g, w.heap.size = g := ⟨_, rfl⟩
  have GA : Hid (w.heap.size = go ∧ x1.heap.size = go + 1) := ⟨hgo, by omega⟩
  rw [hgo] at KON
  rw [hgo]
  clear HWA SZA hgo
  have KO1 : Hid (Blk x1 go 26 [.bool false, .int .i64 0, .int .i64 0, .int .i64 0]) := KON
  clear KON
  go_wp2_with fail
  refine (intOfList (R1.out.alloc _) x1.heap.size 4 [0, 5, 999990, 1000000] rfl (ints_new x1 _) (by have := R1.out.hc.lt; omega) (by omega) (by omega)).mono ?_
  rintro e x2 ⟨u, rfl, vm, r, b0⟩
  have VMu : Hid (u ∈ ([0, 5, 999990, 1000000] : List Int)) := vm
  have b : But p x1 x2 := ((But.refl p x1).alloc _).trans b0
  clear vm b0
  have L2 : Hid (x1.heap.size ≤ x2.heap.size) := b.size
  have KQ : Kept p (p + 1) x1 x2 := Kept.of_grown b
  have R2 : Hid (Ready W0 a len cap l p x2) := r
  have B2 : Hid (But p w x2) := B1.out.trans b
  have KO2 : Hid (Blk x2 go 26 [.bool false, .int .i64 0, .int .i64 0, .int .i64 0]) := KO1.out.keep (KQ.block _ KO1.out.lt (by have := HP.out; have := L1.out; have := GA.out; have := L2.out; omega))
  clear R1 B1 KO1 b
  clear KQ r
  go_wp2_with fail
  refine (l13Draw u R2.out).mono ?_
  unfold DrewT
  rintro e x3 ⟨T0, rfl, r, b⟩
  have L3 : Hid (x2.heap.size ≤ x3.heap.size) := b.size
  have KQ : Kept p (p + 1) x2 x3 := Kept.of_grown b
  have R3 : Hid (Ready W0 a len cap l p x3) := r
  have B3 : Hid (But p w x3) := B2.out.trans b
  have KO3 : Hid (Blk x3 go 26 [.bool false, .int .i64 0, .int .i64 0, .int .i64 0]) := KO2.out.keep (KQ.block _ KO2.out.lt (by have := HP.out; have := L1.out; have := GA.out; have := L2.out; have := L3.out; omega))
  clear R2 B2 KO2 b
  clear KQ r
  obtain ⟨x4, hx4⟩ : ∃ x4, x3.alloc (.cells #[.bool T0.on, .int .i64 T0.due, .int .i64 T0.wait, .int .i64 T0.tries] 26) = x4 := ⟨_, rfl⟩
  have HW4 : Hid (x3.alloc (.cells #[.bool T0.on, .int .i64 T0.due, .int .i64 T0.wait, .int .i64 T0.tries] 26) = x4) := hx4
  have b4 : Below x3.heap.size x3 x4 := by rw [← hx4]; exact (Below.refl _ _).alloc (Nat.le_refl _) _
  have KN : Blk x4 x3.heap.size 26 [.bool T0.on, .int .i64 T0.due, .int .i64 T0.wait, .int .i64 T0.tries] := by rw [← hx4]; exact Blk.new x3 _ _
  have HSZ4 : Hid (x4.heap.size = x3.heap.size + 1) := by rw [← hx4]; show _ = _; simp
  clear hx4
  have L4 : Hid (x3.heap.size ≤ x4.heap.size) := b4.size
  have R4 : Hid (Ready W0 a len cap l p x4) := rdyL R3.out b4
  have B4 : Hid (But p w x4) := butL B3.out b4
  have KO4 : Hid (Blk x4 go 26 [.bool false, .int .i64 0, .int .i64 0, .int .i64 0]) := KO3.out.later b4
  clear R3 B3 KO3 b4
  unfold tmV
  go_upto_region 2 with fail
  rw [HW4.out]
  obtain ⟨ge, hge⟩ : ∃ g, x3.heap.size = g := ⟨_, rfl⟩
  have Gge : Hid (x3.heap.size = ge ∧ x4.heap.size = ge + 1) := ⟨hge, by rw [← hge]; exact HSZ4.out⟩
  rw [hge] at KN ⊢
  clear HW4 HSZ4 hge
  have KE4 : Hid (Blk x4 ge 26 [.bool T0.on, .int .i64 T0.due, .int .i64 T0.wait, .int .i64 T0.tries]) := KN
  clear KN
  go_wp2_with fail
  refine (Draw.below R4.out 10 (by omega) (by omega)).mono ?_
  rintro e x5 ⟨v, rfl, va, vb, r, b⟩
  have VBv : Hid (0 ≤ v ∧ v < 10) := ⟨va, vb⟩
  clear va vb
  have L5 : Hid (x4.heap.size ≤ x5.heap.size) := b.size
  have KQ : Kept p (p + 1) x4 x5 := Kept.of_grown b
  have R5 : Hid (Ready W0 a len cap l p x5) := r
  have B5 : Hid (But p w x5) := B4.out.trans b
  have KO5 : Hid (Blk x5 go 26 [.bool false, .int .i64 0, .int .i64 0, .int .i64 0]) := KO4.out.keep (KQ.block _ KO4.out.lt (by have := HP.out; have := L1.out; have := GA.out; have := L2.out; have := L3.out; have := L4.out; have := Gge.out; have := L5.out; omega))
  have KE5 : Hid (Blk x5 ge 26 [.bool T0.on, .int .i64 T0.due, .int .i64 T0.wait, .int .i64 T0.tries]) := KE4.out.keep (KQ.block _ KE4.out.lt (by have := HP.out; have := L1.out; have := GA.out; have := L2.out; have := L3.out; have := L4.out; have := Gge.out; have := L5.out; omega))
  clear R4 B4 KO4 KE4 b
  clear KQ r
  cases ev0 : (v == 0) with
  | true =>
    obtain rfl : v = 0 := by simpa using ev0
    go_wp2_with fail
    refine (intOfList (R5.out.alloc _) x5.heap.size 3 [-1, 1000008, 1000009] rfl (ints_new x5 _) (by have := R5.out.hc.lt; omega) (by omega) (by omega)).mono ?_
    rintro e x6 ⟨z, rfl, vm, r, b0⟩
    have VMz : Hid (z ∈ ([-1, 1000008, 1000009] : List Int)) := vm
    have b : But p x5 x6 := ((But.refl p x5).alloc _).trans b0
    clear vm b0
    have L6 : Hid (x5.heap.size ≤ x6.heap.size) := b.size
    have KQ : Kept p (p + 1) x5 x6 := Kept.of_grown b
    have R6 : Hid (Ready W0 a len cap l p x6) := r
    have B6 : Hid (But p w x6) := B5.out.trans b
    have KO6 : Hid (Blk x6 go 26 [.bool false, .int .i64 0, .int .i64 0, .int .i64 0]) := KO5.out.keep (KQ.block _ KO5.out.lt (by have := HP.out; have := L1.out; have := GA.out; have := L2.out; have := L3.out; have := L4.out; have := Gge.out; have := L5.out; have := L6.out; omega))
    have KE6 : Hid (Blk x6 ge 26 [.bool T0.on, .int .i64 T0.due, .int .i64 T0.wait, .int .i64 T0.tries]) := KE5.out.keep (KQ.block _ KE5.out.lt (by have := HP.out; have := L1.out; have := GA.out; have := L2.out; have := L3.out; have := L4.out; have := Gge.out; have := L5.out; have := L6.out; omega))
    clear R5 B5 KO5 KE5 b
    clear KQ r
    have co1 := KE6.out.cell 1 rfl
    have fo1 := KE6.out.frozen 1
    obtain ⟨x7, hx7⟩ : ∃ y, (x6.setCell ⟨ge, 1, none⟩ (.int .i64 z)) = y := ⟨_, rfl⟩
    have HW7 : Hid ((x6.setCell ⟨ge, 1, none⟩ (.int .i64 z)) = x7) := hx7
    have L7 : Hid (x7.heap.size = x6.heap.size) := by rw [← hx7]; show _ = _; simp
    have KS : Blk x7 ge 26 [.bool T0.on, .int .i64 z, .int .i64 T0.wait, .int .i64 T0.tries] := by rw [← hx7]; exact (KE6.out.set 1 _ (by simp [maxLen]))
    have KQ : Kept ge (ge + 1) x6 x7 := by rw [← hx7]; exact (Kept.setCell _ _ _ _)
    clear hx7
    have R7 : Hid (Ready W0 a len cap l p x7) := rdyK R6.out KQ (by have := HP.out; have := L1.out; have := GA.out; have := L2.out; have := L3.out; have := L4.out; have := Gge.out; have := L5.out; have := L6.out; have := L7.out; omega)
    have B7 : Hid (But p w x7) := butK B6.out KQ (by have := HP.out; have := L1.out; have := GA.out; have := L2.out; have := L3.out; have := L4.out; have := Gge.out; have := L5.out; have := L6.out; have := L7.out; omega)
    have KO7 : Hid (Blk x7 go 26 [.bool false, .int .i64 0, .int .i64 0, .int .i64 0]) := KO6.out.keep (KQ.block _ KO6.out.lt (by have := HP.out; have := L1.out; have := GA.out; have := L2.out; have := L3.out; have := L4.out; have := Gge.out; have := L5.out; have := L6.out; have := L7.out; omega))
    clear R6 B6 KO6 KQ
    clear KE6
    have KE7 : Hid (Blk x7 ge 26 [.bool T0.on, .int .i64 z, .int .i64 T0.wait, .int .i64 T0.tries]) := KS
    clear KS
    go_upto_region 11 with fail
    rw [HW7.out]
    clear HW7 co1 fo1
    have d0 := KE7.out.cell 0 rfl
    have d1 := KE7.out.cell 1 rfl
    have d2 := KE7.out.cell 2 rfl
    have d3 := KE7.out.cell 3 rfl
    have f0 := KO7.out.cell 0 rfl
    have f1 := KO7.out.cell 1 rfl
    have f2 := KO7.out.cell 2 rfl
    have f3 := KO7.out.cell 3 rfl
    have g0 := KO7.out.frozen 0
    have g1 := KO7.out.frozen 1
    have g2 := KO7.out.frozen 2
    have g3 := KO7.out.frozen 3
    go_wp2
    obtain ⟨k1, _⟩ := tm_stored ⟨T0.on, z, T0.wait, T0.tries⟩ KO7.out
    have KP := tm_kept x7 go ⟨T0.on, z, T0.wait, T0.tries⟩
    exact bodyPost_ret (v := tmV ⟨T0.on, z, T0.wait, T0.tries⟩) (res1 rfl (is_cell rfl k1 aggTm)) rfl ⟨⟨T0.on, z, T0.wait, T0.tries⟩, rfl, rdyK R7.out KP (by have := HP.out; have := L1.out; have := GA.out; have := L2.out; have := L3.out; have := L4.out; have := Gge.out; have := L5.out; have := L6.out; have := L7.out; omega), butK B7.out KP (by have := HP.out; have := L1.out; have := GA.out; have := L2.out; have := L3.out; have := L4.out; have := Gge.out; have := L5.out; have := L6.out; have := L7.out; omega)⟩
  | false =>
    cases ev1 : (v == 1) with
    | true =>
      obtain rfl : v = 1 := by simpa using ev1
      go_wp2_with fail
      refine (intOfList (R5.out.alloc _) x5.heap.size 5 [0, 1, 3, 8, 16] rfl (ints_new x5 _) (by have := R5.out.hc.lt; omega) (by omega) (by omega)).mono ?_
      rintro e x6 ⟨z, rfl, vm, r, b0⟩
      have VMz : Hid (z ∈ ([0, 1, 3, 8, 16] : List Int)) := vm
      have b : But p x5 x6 := ((But.refl p x5).alloc _).trans b0
      clear vm b0
      have L6 : Hid (x5.heap.size ≤ x6.heap.size) := b.size
      have KQ : Kept p (p + 1) x5 x6 := Kept.of_grown b
      have R6 : Hid (Ready W0 a len cap l p x6) := r
      have B6 : Hid (But p w x6) := B5.out.trans b
      have KO6 : Hid (Blk x6 go 26 [.bool false, .int .i64 0, .int .i64 0, .int .i64 0]) := KO5.out.keep (KQ.block _ KO5.out.lt (by have := HP.out; have := L1.out; have := GA.out; have := L2.out; have := L3.out; have := L4.out; have := Gge.out; have := L5.out; have := L6.out; omega))
      have KE6 : Hid (Blk x6 ge 26 [.bool T0.on, .int .i64 T0.due, .int .i64 T0.wait, .int .i64 T0.tries]) := KE5.out.keep (KQ.block _ KE5.out.lt (by have := HP.out; have := L1.out; have := GA.out; have := L2.out; have := L3.out; have := L4.out; have := Gge.out; have := L5.out; have := L6.out; omega))
      clear R5 B5 KO5 KE5 b
      clear KQ r
      have co2 := KE6.out.cell 2 rfl
      have fo2 := KE6.out.frozen 2
      obtain ⟨x7, hx7⟩ : ∃ y, (x6.setCell ⟨ge, 2, none⟩ (.int .i64 z)) = y := ⟨_, rfl⟩
      have HW7 : Hid ((x6.setCell ⟨ge, 2, none⟩ (.int .i64 z)) = x7) := hx7
      have L7 : Hid (x7.heap.size = x6.heap.size) := by rw [← hx7]; show _ = _; simp
      have KS : Blk x7 ge 26 [.bool T0.on, .int .i64 T0.due, .int .i64 z, .int .i64 T0.tries] := by rw [← hx7]; exact (KE6.out.set 2 _ (by simp [maxLen]))
      have KQ : Kept ge (ge + 1) x6 x7 := by rw [← hx7]; exact (Kept.setCell _ _ _ _)
      clear hx7
      have R7 : Hid (Ready W0 a len cap l p x7) := rdyK R6.out KQ (by have := HP.out; have := L1.out; have := GA.out; have := L2.out; have := L3.out; have := L4.out; have := Gge.out; have := L5.out; have := L6.out; have := L7.out; omega)
      have B7 : Hid (But p w x7) := butK B6.out KQ (by have := HP.out; have := L1.out; have := GA.out; have := L2.out; have := L3.out; have := L4.out; have := Gge.out; have := L5.out; have := L6.out; have := L7.out; omega)
      have KO7 : Hid (Blk x7 go 26 [.bool false, .int .i64 0, .int .i64 0, .int .i64 0]) := KO6.out.keep (KQ.block _ KO6.out.lt (by have := HP.out; have := L1.out; have := GA.out; have := L2.out; have := L3.out; have := L4.out; have := Gge.out; have := L5.out; have := L6.out; have := L7.out; omega))
      clear R6 B6 KO6 KQ
      clear KE6
      have KE7 : Hid (Blk x7 ge 26 [.bool T0.on, .int .i64 T0.due, .int .i64 z, .int .i64 T0.tries]) := KS
      clear KS
      go_upto_region 11 with fail
      rw [HW7.out]
      clear HW7 co2 fo2
      have d0 := KE7.out.cell 0 rfl
      have d1 := KE7.out.cell 1 rfl
      have d2 := KE7.out.cell 2 rfl
      have d3 := KE7.out.cell 3 rfl
      have f0 := KO7.out.cell 0 rfl
      have f1 := KO7.out.cell 1 rfl
      have f2 := KO7.out.cell 2 rfl
      have f3 := KO7.out.cell 3 rfl
      have g0 := KO7.out.frozen 0
      have g1 := KO7.out.frozen 1
      have g2 := KO7.out.frozen 2
      have g3 := KO7.out.frozen 3
      go_wp2
      obtain ⟨k1, _⟩ := tm_stored ⟨T0.on, T0.due, z, T0.tries⟩ KO7.out
      have KP := tm_kept x7 go ⟨T0.on, T0.due, z, T0.tries⟩
      exact bodyPost_ret (v := tmV ⟨T0.on, T0.due, z, T0.tries⟩) (res1 rfl (is_cell rfl k1 aggTm)) rfl ⟨⟨T0.on, T0.due, z, T0.tries⟩, rfl, rdyK R7.out KP (by have := HP.out; have := L1.out; have := GA.out; have := L2.out; have := L3.out; have := L4.out; have := Gge.out; have := L5.out; have := L6.out; have := L7.out; omega), butK B7.out KP (by have := HP.out; have := L1.out; have := GA.out; have := L2.out; have := L3.out; have := L4.out; have := Gge.out; have := L5.out; have := L6.out; have := L7.out; omega)⟩
    | false =>
      cases ev2 : (v == 2) with
      | true =>
        obtain rfl : v = 2 := by simpa using ev2
        go_wp2_with fail
        refine (intOfList (R5.out.alloc _) x5.heap.size 4 [0, 1, 5, 6] rfl (ints_new x5 _) (by have := R5.out.hc.lt; omega) (by omega) (by omega)).mono ?_
        rintro e x6 ⟨z, rfl, vm, r, b0⟩
        have VMz : Hid (z ∈ ([0, 1, 5, 6] : List Int)) := vm
        have b : But p x5 x6 := ((But.refl p x5).alloc _).trans b0
        clear vm b0
        have L6 : Hid (x5.heap.size ≤ x6.heap.size) := b.size
        have KQ : Kept p (p + 1) x5 x6 := Kept.of_grown b
        have R6 : Hid (Ready W0 a len cap l p x6) := r
        have B6 : Hid (But p w x6) := B5.out.trans b
        have KO6 : Hid (Blk x6 go 26 [.bool false, .int .i64 0, .int .i64 0, .int .i64 0]) := KO5.out.keep (KQ.block _ KO5.out.lt (by have := HP.out; have := L1.out; have := GA.out; have := L2.out; have := L3.out; have := L4.out; have := Gge.out; have := L5.out; have := L6.out; omega))
        have KE6 : Hid (Blk x6 ge 26 [.bool T0.on, .int .i64 T0.due, .int .i64 T0.wait, .int .i64 T0.tries]) := KE5.out.keep (KQ.block _ KE5.out.lt (by have := HP.out; have := L1.out; have := GA.out; have := L2.out; have := L3.out; have := L4.out; have := Gge.out; have := L5.out; have := L6.out; omega))
        clear R5 B5 KO5 KE5 b
        clear KQ r
        have co3 := KE6.out.cell 3 rfl
        have fo3 := KE6.out.frozen 3
        obtain ⟨x7, hx7⟩ : ∃ y, (x6.setCell ⟨ge, 3, none⟩ (.int .i64 z)) = y := ⟨_, rfl⟩
        have HW7 : Hid ((x6.setCell ⟨ge, 3, none⟩ (.int .i64 z)) = x7) := hx7
        have L7 : Hid (x7.heap.size = x6.heap.size) := by rw [← hx7]; show _ = _; simp
        have KS : Blk x7 ge 26 [.bool T0.on, .int .i64 T0.due, .int .i64 T0.wait, .int .i64 z] := by rw [← hx7]; exact (KE6.out.set 3 _ (by simp [maxLen]))
        have KQ : Kept ge (ge + 1) x6 x7 := by rw [← hx7]; exact (Kept.setCell _ _ _ _)
        clear hx7
        have R7 : Hid (Ready W0 a len cap l p x7) := rdyK R6.out KQ (by have := HP.out; have := L1.out; have := GA.out; have := L2.out; have := L3.out; have := L4.out; have := Gge.out; have := L5.out; have := L6.out; have := L7.out; omega)
        have B7 : Hid (But p w x7) := butK B6.out KQ (by have := HP.out; have := L1.out; have := GA.out; have := L2.out; have := L3.out; have := L4.out; have := Gge.out; have := L5.out; have := L6.out; have := L7.out; omega)
        have KO7 : Hid (Blk x7 go 26 [.bool false, .int .i64 0, .int .i64 0, .int .i64 0]) := KO6.out.keep (KQ.block _ KO6.out.lt (by have := HP.out; have := L1.out; have := GA.out; have := L2.out; have := L3.out; have := L4.out; have := Gge.out; have := L5.out; have := L6.out; have := L7.out; omega))
        clear R6 B6 KO6 KQ
        clear KE6
        have KE7 : Hid (Blk x7 ge 26 [.bool T0.on, .int .i64 T0.due, .int .i64 T0.wait, .int .i64 z]) := KS
        clear KS
        go_upto_region 11 with fail
        rw [HW7.out]
        clear HW7 co3 fo3
        have d0 := KE7.out.cell 0 rfl
        have d1 := KE7.out.cell 1 rfl
        have d2 := KE7.out.cell 2 rfl
        have d3 := KE7.out.cell 3 rfl
        have f0 := KO7.out.cell 0 rfl
        have f1 := KO7.out.cell 1 rfl
        have f2 := KO7.out.cell 2 rfl
        have f3 := KO7.out.cell 3 rfl
        have g0 := KO7.out.frozen 0
        have g1 := KO7.out.frozen 1
        have g2 := KO7.out.frozen 2
        have g3 := KO7.out.frozen 3
        go_wp2
        obtain ⟨k1, _⟩ := tm_stored ⟨T0.on, T0.due, T0.wait, z⟩ KO7.out
        have KP := tm_kept x7 go ⟨T0.on, T0.due, T0.wait, z⟩
        exact bodyPost_ret (v := tmV ⟨T0.on, T0.due, T0.wait, z⟩) (res1 rfl (is_cell rfl k1 aggTm)) rfl ⟨⟨T0.on, T0.due, T0.wait, z⟩, rfl, rdyK R7.out KP (by have := HP.out; have := L1.out; have := GA.out; have := L2.out; have := L3.out; have := L4.out; have := Gge.out; have := L5.out; have := L6.out; have := L7.out; omega), butK B7.out KP (by have := HP.out; have := L1.out; have := GA.out; have := L2.out; have := L3.out; have := L4.out; have := Gge.out; have := L5.out; have := L6.out; have := L7.out; omega)⟩
      | false =>
        cases ev3 : (v == 3) with
        | true =>
          obtain rfl : v = 3 := by simpa using ev3
          have q0 := KE5.out.cell 0 rfl
          have q1 := KE5.out.cell 1 rfl
          have q2 := KE5.out.cell 2 rfl
          have q3 := KE5.out.cell 3 rfl
          have co0 := KE5.out.cell 0 rfl
          have fo0 := KE5.out.frozen 0
          obtain ⟨x6, hx6⟩ : ∃ y, (x5.setCell ⟨ge, 0, none⟩ (.bool (!T0.on))) = y := ⟨_, rfl⟩
          have HW6 : Hid ((x5.setCell ⟨ge, 0, none⟩ (.bool (!T0.on))) = x6) := hx6
          have L6 : Hid (x6.heap.size = x5.heap.size) := by rw [← hx6]; show _ = _; simp
          have KS : Blk x6 ge 26 [.bool (!T0.on), .int .i64 T0.due, .int .i64 T0.wait, .int .i64 T0.tries] := by rw [← hx6]; exact (KE5.out.set 0 _ (by simp [maxLen]))
          have KQ : Kept ge (ge + 1) x5 x6 := by rw [← hx6]; exact (Kept.setCell _ _ _ _)
          clear hx6
          have R6 : Hid (Ready W0 a len cap l p x6) := rdyK R5.out KQ (by have := HP.out; have := L1.out; have := GA.out; have := L2.out; have := L3.out; have := L4.out; have := Gge.out; have := L5.out; have := L6.out; omega)
          have B6 : Hid (But p w x6) := butK B5.out KQ (by have := HP.out; have := L1.out; have := GA.out; have := L2.out; have := L3.out; have := L4.out; have := Gge.out; have := L5.out; have := L6.out; omega)
          have KO6 : Hid (Blk x6 go 26 [.bool false, .int .i64 0, .int .i64 0, .int .i64 0]) := KO5.out.keep (KQ.block _ KO5.out.lt (by have := HP.out; have := L1.out; have := GA.out; have := L2.out; have := L3.out; have := L4.out; have := Gge.out; have := L5.out; have := L6.out; omega))
          clear R5 B5 KO5 KQ
          clear KE5
          have KE6 : Hid (Blk x6 ge 26 [.bool (!T0.on), .int .i64 T0.due, .int .i64 T0.wait, .int .i64 T0.tries]) := KS
          clear KS
          go_upto_region 11 with fail
          rw [HW6.out]
          clear HW6 co0 fo0
          clear q0 q1 q2 q3
          have d0 := KE6.out.cell 0 rfl
          have d1 := KE6.out.cell 1 rfl
          have d2 := KE6.out.cell 2 rfl
          have d3 := KE6.out.cell 3 rfl
          have f0 := KO6.out.cell 0 rfl
          have f1 := KO6.out.cell 1 rfl
          have f2 := KO6.out.cell 2 rfl
          have f3 := KO6.out.cell 3 rfl
          have g0 := KO6.out.frozen 0
          have g1 := KO6.out.frozen 1
          have g2 := KO6.out.frozen 2
          have g3 := KO6.out.frozen 3
          go_wp2
          obtain ⟨k1, _⟩ := tm_stored ⟨!T0.on, T0.due, T0.wait, T0.tries⟩ KO6.out
          have KP := tm_kept x6 go ⟨!T0.on, T0.due, T0.wait, T0.tries⟩
          exact bodyPost_ret (v := tmV ⟨!T0.on, T0.due, T0.wait, T0.tries⟩) (res1 rfl (is_cell rfl k1 aggTm)) rfl ⟨⟨!T0.on, T0.due, T0.wait, T0.tries⟩, rfl, rdyK R6.out KP (by have := HP.out; have := L1.out; have := GA.out; have := L2.out; have := L3.out; have := L4.out; have := Gge.out; have := L5.out; have := L6.out; omega), butK B6.out KP (by have := HP.out; have := L1.out; have := GA.out; have := L2.out; have := L3.out; have := L4.out; have := Gge.out; have := L5.out; have := L6.out; omega)⟩
        | false =>
          go_upto_region 11 with fail
          have d0 := KE5.out.cell 0 rfl
          have d1 := KE5.out.cell 1 rfl
          have d2 := KE5.out.cell 2 rfl
          have d3 := KE5.out.cell 3 rfl
          have f0 := KO5.out.cell 0 rfl
          have f1 := KO5.out.cell 1 rfl
          have f2 := KO5.out.cell 2 rfl
          have f3 := KO5.out.cell 3 rfl
          have g0 := KO5.out.frozen 0
          have g1 := KO5.out.frozen 1
          have g2 := KO5.out.frozen 2
          have g3 := KO5.out.frozen 3
          go_wp2
          obtain ⟨k1, _⟩ := tm_stored T0 KO5.out
          have KP := tm_kept x5 go T0
          exact bodyPost_ret (v := tmV T0) (res1 rfl (is_cell rfl k1 aggTm)) rfl ⟨T0, rfl, rdyK R5.out KP (by have := HP.out; have := L1.out; have := GA.out; have := L2.out; have := L3.out; have := L4.out; have := Gge.out; have := L5.out; omega), butK B5.out KP (by have := HP.out; have := L1.out; have := GA.out; have := L2.out; have := L3.out; have := L4.out; have := Gge.out; have := L5.out; omega)⟩

set_option maxRecDepth 100000 in
set_option maxHeartbeats 4000000 in
theorem drawTimerSet (a : Option Addr) (len cap : Nat) (l : List Int) (w : World) (hl : len = l.length) (hr : Rd w a l) (hb : Bytes l) (hlen : len ≤ 1048576) :
    Calls Try.prog 11 #[.slice a len cap] w fun e w' => ∃ n : Int, e = .returned (.int .i64 n) ∧ n ∈ ([0, 1, 70, 1000000, 1000001, -1] : List Int) ∧ Below w.heap.size w w' := by
  have HR : Hid (Rd w a l) := hr
  have HL : Hid (len = l.length) := hl
  have HB : Hid (Bytes l) := hb
  clear hr hl hb
  have B0 : Hid (Below w.heap.size w w) := Below.refl _ _
  go_enter Try.func11, Try.ntmps11
  go_wp2_with fail
  refine (newCur a len cap l w HL.out (HR.out.later B0.out (Nat.le_refl _)) HB.out hlen).mono ?_
  rintro e x1 ⟨p, rfl, r⟩
  have b := r.hB
  have HP : Hid (w.heap.size ≤ p ∧ p < x1.heap.size) := ⟨r.hp, r.hc.lt⟩
  have L1 : Hid (w.heap.size ≤ x1.heap.size) := b.size
  have B1 : Hid (Below w.heap.size w x1) := B0.out.trans (b.mono B0.out.size)
  clear B0 b
  have R1 : Hid (Ready w a len cap l p x1) := r
  clear r
  go_wp2_with fail
  refine (intOfList (R1.out.alloc _) x1.heap.size 6 [0, 1, 70, 1000000, 1000001, -1] rfl (ints_new x1 _) (by have := R1.out.hc.lt; omega) (by omega) (by omega)).mono ?_
  rintro e x2 ⟨z, rfl, vm, r, b0⟩
  have VMz : Hid (z ∈ ([0, 1, 70, 1000000, 1000001, -1] : List Int)) := vm
  have b : But p x1 x2 := ((But.refl p x1).alloc _).trans b0
  clear vm b0
  have L2 : Hid (x1.heap.size ≤ x2.heap.size) := b.size
  have KQ : Kept p (p + 1) x1 x2 := Kept.of_grown b
  have B2 : Hid (Below w.heap.size w x2) := But.below b B1.out (by have := L1.out; have := HP.out; have := L2.out; omega)
  have R2 : Hid (Ready w a len cap l p x2) := r
  clear B1 R1 b
  clear KQ r
  go_wp2
  go_ret
  exact ⟨z, rfl, VMz.out, B2.out⟩

set_option maxRecDepth 100000 in
set_option maxHeartbeats 8000000 in
theorem drawTimerNext (a : Option Addr) (len cap : Nat) (l : List Int) (w : World) (hl : len = l.length) (hr : Rd w a l) (hb : Bytes l) (hlen : len ≤ 1048576) :
    Calls Try.prog 16 #[.slice a len cap] w fun e w' => ∃ (D : TmD) (n : Int), e = .returned (.tuple #[tmV D, .int .i64 n]) ∧ Below w.heap.size w w' := by
  have HR : Hid (Rd w a l) := hr
  have HL : Hid (len = l.length) := hl
  have HB : Hid (Bytes l) := hb
  clear hr hl hb
  have B0 : Hid (Below w.heap.size w w) := Below.refl _ _
  obtain ⟨x1, hx1⟩ : ∃ x1, (w.alloc (.cells #[.bool false, .int .i64 0, .int .i64 0, .int .i64 0] 26)) = x1 := ⟨_, rfl⟩
  have HWA : Hid ((w.alloc (.cells #[.bool false, .int .i64 0, .int .i64 0, .int .i64 0] 26)) = x1) := hx1
  have b1 : Below w.heap.size w x1 := by rw [← hx1]; exact ((Below.refl _ _).alloc (Nat.le_refl _) _)
  have KON : Blk x1 (w.heap.size) 26 [.bool false, .int .i64 0, .int .i64 0, .int .i64 0] := by
    have q := (Blk.new w 26 [.bool false, .int .i64 0, .int .i64 0, .int .i64 0])
    skip
    rw [← hx1]; exact q
  have SZA : x1.heap.size = w.heap.size + 1 := by rw [← hx1]; simp
  clear hx1
  have L1 : Hid (w.heap.size ≤ x1.heap.size) := b1.size
  have B1 : Hid (Below w.heap.size w x1) := B0.out.trans (b1.mono B0.out.size)
  clear B0 b1
  go_enter Try.func16, Try.ntmps16
  go_upto_region 1 with fail
  rw [HWA.out]
  obtain ⟨go, hgo⟩ : ∃ g, w.heap.size = g := ⟨_, rfl⟩
  have GA : Hid (w.heap.size = go ∧ x1.heap.size = go + 1) := ⟨hgo, by omega⟩
  rw [hgo] at KON
  rw [hgo]
  clear HWA SZA hgo
  have KO1 : Hid (Blk x1 go 26 [.bool false, .int .i64 0, .int .i64 0, .int .i64 0]) := KON
  clear KON
  go_wp2_with fail
  refine (newCur a len cap l x1 HL.out (HR.out.later B1.out (Nat.le_refl _)) HB.out hlen).mono ?_
  rintro e x2 ⟨p, rfl, r⟩
  have b := r.hB
  have HP : Hid (x1.heap.size ≤ p ∧ p < x2.heap.size) := ⟨r.hp, r.hc.lt⟩
  have L2 : Hid (x1.heap.size ≤ x2.heap.size) := b.size
  have B2 : Hid (Below w.heap.size w x2) := B1.out.trans (b.mono B1.out.size)
  have KO2 : Hid (Blk x2 go 26 [.bool false, .int .i64 0, .int .i64 0, .int .i64 0]) := KO1.out.later b
  clear B1 KO1 b
  have R2 : Hid (Ready x1 a len cap l p x2) := r
  clear r
  go_wp2_with fail
  refine (l13Any R2.out).mono ?_
  unfold DrewT
  rintro e x3 ⟨D, rfl, r, b⟩
  have L3 : Hid (x2.heap.size ≤ x3.heap.size) := b.size
  have KQ : Kept p (p + 1) x2 x3 := Kept.of_grown b
  have B3 : Hid (Below w.heap.size w x3) := But.below b B2.out (by have := L1.out; have := GA.out; have := L2.out; have := HP.out; have := L3.out; omega)
  have KO3 : Hid (Blk x3 go 26 [.bool false, .int .i64 0, .int .i64 0, .int .i64 0]) := KO2.out.keep (KQ.block _ KO2.out.lt (by have := L1.out; have := GA.out; have := L2.out; have := HP.out; have := L3.out; omega))
  have R3 : Hid (Ready x1 a len cap l p x3) := r
  clear B2 KO2 R2 b
  clear KQ r
  obtain ⟨x4, hx4⟩ : ∃ x4, x3.alloc (.cells #[.bool D.on, .int .i64 D.due, .int .i64 D.wait, .int .i64 D.tries] 26) = x4 := ⟨_, rfl⟩
  have HW4 : Hid (x3.alloc (.cells #[.bool D.on, .int .i64 D.due, .int .i64 D.wait, .int .i64 D.tries] 26) = x4) := hx4
  have b4 : Below x3.heap.size x3 x4 := by rw [← hx4]; exact (Below.refl _ _).alloc (Nat.le_refl _) _
  have KN : Blk x4 x3.heap.size 26 [.bool D.on, .int .i64 D.due, .int .i64 D.wait, .int .i64 D.tries] := by rw [← hx4]; exact Blk.new x3 _ _
  have HSZ4 : Hid (x4.heap.size = x3.heap.size + 1) := by rw [← hx4]; show _ = _; simp
  clear hx4
  have L4 : Hid (x3.heap.size ≤ x4.heap.size) := b4.size
  have B4 : Hid (Below w.heap.size w x4) := B3.out.trans (b4.mono B3.out.size)
  have KO4 : Hid (Blk x4 go 26 [.bool false, .int .i64 0, .int .i64 0, .int .i64 0]) := KO3.out.later b4
  have R4 : Hid (Ready x1 a len cap l p x4) := rdyL R3.out b4
  clear B3 KO3 R3 b4
  unfold tmV
  go_upto_region 3 with fail
  rw [HW4.out]
  obtain ⟨ge, hge⟩ : ∃ g, x3.heap.size = g := ⟨_, rfl⟩
  have Gge : Hid (x3.heap.size = ge ∧ x4.heap.size = ge + 1) := ⟨hge, by rw [← hge]; exact HSZ4.out⟩
  rw [hge] at KN ⊢
  clear HW4 HSZ4 hge
  have KE4 : Hid (Blk x4 ge 26 [.bool D.on, .int .i64 D.due, .int .i64 D.wait, .int .i64 D.tries]) := KN
  clear KN
  have NI : Hid (x4.heap.size ≠ p ∧ go ≠ p ∧ w.heap.size ≤ go ∧ go < x4.heap.size ∧ w.heap.size ≤ p ∧ ge ≠ p ∧ ge ≠ go ∧ p < x4.heap.size) := by have := R4.out.hc.lt; have := L1.out; have := GA.out; have := L2.out; have := HP.out; have := L3.out; have := L4.out; have := Gge.out; show _ ∧ _; omega
  have SZ1 : (((((x4.setCell ⟨go, 0, none⟩ (.bool D.on)).setCell ⟨go, 1, none⟩ (.int .i64 D.due)).setCell ⟨go, 2, none⟩ (.int .i64 D.wait)).setCell ⟨go, 3, none⟩ (.int .i64 D.tries))).heap.size = x4.heap.size := tm_size x4 go D
  have KP1 := tm_kept x4 go D
  have KP2 := tm_kept (x4.alloc (.cells #[.int .i64 0, .int .i64 1, .int .i64 0, .int .i64 2, .int .i64 (-1), .int .i64 100] 3)) go D
  have bA : Below x4.heap.size x4 (x4.alloc (.cells #[.int .i64 0, .int .i64 1, .int .i64 0, .int .i64 2, .int .i64 (-1), .int .i64 100] 3)) := (Below.refl _ _).alloc (Nat.le_refl _) _
  have BW1 : Hid (Below w.heap.size w ((((((x4.setCell ⟨go, 0, none⟩ (.bool D.on)).setCell ⟨go, 1, none⟩ (.int .i64 D.due)).setCell ⟨go, 2, none⟩ (.int .i64 D.wait)).setCell ⟨go, 3, none⟩ (.int .i64 D.tries))).alloc (.cells #[.int .i64 0, .int .i64 1, .int .i64 0, .int .i64 2, .int .i64 (-1), .int .i64 100] 3)).drew) := (((tm_stored D KO4.out).2 _ _ NI.out.2.2.1 B4.out).alloc (by have := B4.out.size; rw [SZ1]; exact this) _).drew
  have BW2 : Hid (Below w.heap.size w ((((((x4.alloc (.cells #[.int .i64 0, .int .i64 1, .int .i64 0, .int .i64 2, .int .i64 (-1), .int .i64 100] 3)).setCell ⟨go, 0, none⟩ (.bool D.on)).setCell ⟨go, 1, none⟩ (.int .i64 D.due)).setCell ⟨go, 2, none⟩ (.int .i64 D.wait)).setCell ⟨go, 3, none⟩ (.int .i64 D.tries))).drew) := ((tm_stored D (KO4.out.alloc _)).2 _ _ NI.out.2.2.1 (B4.out.alloc B4.out.size _)).drew
  have BW3 : Hid (Below w.heap.size w (x4.alloc (.cells #[.int .i64 0, .int .i64 1, .int .i64 0, .int .i64 2, .int .i64 (-1), .int .i64 100] 3)).drew) := (B4.out.alloc B4.out.size _).drew
  have RW3 : Hid (Ready w a len cap l p (x4.alloc (.cells #[.int .i64 0, .int .i64 1, .int .i64 0, .int .i64 2, .int .i64 (-1), .int .i64 100] 3)).drew) := ⟨R4.out.hl, HR.out, HB.out, hlen, BW3.out, NI.out.2.2.2.2.1, R4.out.hc.alloc _⟩
  have RW1 : Hid (Ready w a len cap l p ((((((x4.setCell ⟨go, 0, none⟩ (.bool D.on)).setCell ⟨go, 1, none⟩ (.int .i64 D.due)).setCell ⟨go, 2, none⟩ (.int .i64 D.wait)).setCell ⟨go, 3, none⟩ (.int .i64 D.tries))).alloc (.cells #[.int .i64 0, .int .i64 1, .int .i64 0, .int .i64 2, .int .i64 (-1), .int .i64 100] 3)).drew) := ⟨R4.out.hl, HR.out, HB.out, hlen, BW1.out, NI.out.2.2.2.2.1, (R4.out.hc.keep (KP1.block p NI.out.2.2.2.2.2.2.2 (by have := NI.out; omega))).alloc _⟩
  have RW2 : Hid (Ready w a len cap l p ((((((x4.alloc (.cells #[.int .i64 0, .int .i64 1, .int .i64 0, .int .i64 2, .int .i64 (-1), .int .i64 100] 3)).setCell ⟨go, 0, none⟩ (.bool D.on)).setCell ⟨go, 1, none⟩ (.int .i64 D.due)).setCell ⟨go, 2, none⟩ (.int .i64 D.wait)).setCell ⟨go, 3, none⟩ (.int .i64 D.tries))).drew) := ⟨R4.out.hl, HR.out, HB.out, hlen, BW2.out, NI.out.2.2.2.2.1, (R4.out.hc.alloc _).keep (KP2.block p (by rw [World.size_alloc]; have := NI.out; omega) (by have := NI.out; omega))⟩
  have LI3 : Hid (IntsAt (x4.alloc (.cells #[.int .i64 0, .int .i64 1, .int .i64 0, .int .i64 2, .int .i64 (-1), .int .i64 100] 3)).drew x4.heap.size [0, 1, 0, 2, -1, 100]) := ints_new x4 [0, 1, 0, 2, -1, 100]
  have LI1 : Hid (IntsAt ((((((x4.setCell ⟨go, 0, none⟩ (.bool D.on)).setCell ⟨go, 1, none⟩ (.int .i64 D.due)).setCell ⟨go, 2, none⟩ (.int .i64 D.wait)).setCell ⟨go, 3, none⟩ (.int .i64 D.tries))).alloc (.cells #[.int .i64 0, .int .i64 1, .int .i64 0, .int .i64 2, .int .i64 (-1), .int .i64 100] 3)).drew x4.heap.size [0, 1, 0, 2, -1, 100]) := by have q := ints_new ((((x4.setCell ⟨go, 0, none⟩ (.bool D.on)).setCell ⟨go, 1, none⟩ (.int .i64 D.due)).setCell ⟨go, 2, none⟩ (.int .i64 D.wait)).setCell ⟨go, 3, none⟩ (.int .i64 D.tries)) [0, 1, 0, 2, -1, 100]; rw [SZ1] at q; exact q
  have LI2 : Hid (IntsAt ((((((x4.alloc (.cells #[.int .i64 0, .int .i64 1, .int .i64 0, .int .i64 2, .int .i64 (-1), .int .i64 100] 3)).setCell ⟨go, 0, none⟩ (.bool D.on)).setCell ⟨go, 1, none⟩ (.int .i64 D.due)).setCell ⟨go, 2, none⟩ (.int .i64 D.wait)).setCell ⟨go, 3, none⟩ (.int .i64 D.tries))).drew x4.heap.size [0, 1, 0, 2, -1, 100]) := by intro j hj; have q := ints_new x4 [0, 1, 0, 2, -1, 100] j hj; rw [← q]; exact cell_keep (KP2.block x4.heap.size (by rw [World.size_alloc]; omega) (by have := NI.out; omega))
  have KW1 : Hid (Blk ((((((x4.setCell ⟨go, 0, none⟩ (.bool D.on)).setCell ⟨go, 1, none⟩ (.int .i64 D.due)).setCell ⟨go, 2, none⟩ (.int .i64 D.wait)).setCell ⟨go, 3, none⟩ (.int .i64 D.tries))).alloc (.cells #[.int .i64 0, .int .i64 1, .int .i64 0, .int .i64 2, .int .i64 (-1), .int .i64 100] 3)).drew go 26 [.bool D.on, .int .i64 D.due, .int .i64 D.wait, .int .i64 D.tries]) := ((tm_stored D KO4.out).1).alloc _
  have KW2 : Hid (Blk ((((((x4.alloc (.cells #[.int .i64 0, .int .i64 1, .int .i64 0, .int .i64 2, .int .i64 (-1), .int .i64 100] 3)).setCell ⟨go, 0, none⟩ (.bool D.on)).setCell ⟨go, 1, none⟩ (.int .i64 D.due)).setCell ⟨go, 2, none⟩ (.int .i64 D.wait)).setCell ⟨go, 3, none⟩ (.int .i64 D.tries))).drew go 26 [.bool D.on, .int .i64 D.due, .int .i64 D.wait, .int .i64 D.tries]) := (tm_stored D (KO4.out.alloc _)).1
  have KW3 : Hid (Blk (x4.alloc (.cells #[.int .i64 0, .int .i64 1, .int .i64 0, .int .i64 2, .int .i64 (-1), .int .i64 100] 3)).drew go 26 [.bool false, .int .i64 0, .int .i64 0, .int .i64 0]) := KO4.out.alloc _
  have E0 : Hid (Blk x4 ge 26 [.bool D.on, .int .i64 D.due, .int .i64 D.wait, .int .i64 D.tries]) := KE4.out
  have E3 : Hid (Blk (x4.alloc (.cells #[.int .i64 0, .int .i64 1, .int .i64 0, .int .i64 2, .int .i64 (-1), .int .i64 100] 3)).drew ge 26 [.bool D.on, .int .i64 D.due, .int .i64 D.wait, .int .i64 D.tries]) := KE4.out.alloc _
  have E4 : Hid (Blk ((((x4.setCell ⟨go, 0, none⟩ (.bool D.on)).setCell ⟨go, 1, none⟩ (.int .i64 D.due)).setCell ⟨go, 2, none⟩ (.int .i64 D.wait)).setCell ⟨go, 3, none⟩ (.int .i64 D.tries)) ge 26 [.bool D.on, .int .i64 D.due, .int .i64 D.wait, .int .i64 D.tries]) := KE4.out.keep (KP1.block ge KE4.out.lt (by have := NI.out; omega))
  have E1 : Hid (Blk ((((((x4.setCell ⟨go, 0, none⟩ (.bool D.on)).setCell ⟨go, 1, none⟩ (.int .i64 D.due)).setCell ⟨go, 2, none⟩ (.int .i64 D.wait)).setCell ⟨go, 3, none⟩ (.int .i64 D.tries))).alloc (.cells #[.int .i64 0, .int .i64 1, .int .i64 0, .int .i64 2, .int .i64 (-1), .int .i64 100] 3)).drew ge 26 [.bool D.on, .int .i64 D.due, .int .i64 D.wait, .int .i64 D.tries]) := E4.out.alloc _
  have E2 : Hid (Blk ((((((x4.alloc (.cells #[.int .i64 0, .int .i64 1, .int .i64 0, .int .i64 2, .int .i64 (-1), .int .i64 100] 3)).setCell ⟨go, 0, none⟩ (.bool D.on)).setCell ⟨go, 1, none⟩ (.int .i64 D.due)).setCell ⟨go, 2, none⟩ (.int .i64 D.wait)).setCell ⟨go, 3, none⟩ (.int .i64 D.tries))).drew ge 26 [.bool D.on, .int .i64 D.due, .int .i64 D.wait, .int .i64 D.tries]) := (KE4.out.alloc _).keep (KP2.block ge (by rw [World.size_alloc]; have := KE4.out.lt; omega) (by have := NI.out; omega))
  have C0 : Hid (x4.drew.cell? ⟨ge, 0, none⟩ = some (.bool D.on) ∧ x4.drew.cell? ⟨ge, 1, none⟩ = some (.int .i64 D.due) ∧ x4.drew.cell? ⟨ge, 2, none⟩ = some (.int .i64 D.wait) ∧ x4.drew.cell? ⟨ge, 3, none⟩ = some (.int .i64 D.tries)) := ⟨E0.out.cell 0 rfl, E0.out.cell 1 rfl, E0.out.cell 2 rfl, E0.out.cell 3 rfl⟩
  have C3 : Hid ((x4.alloc (.cells #[.int .i64 0, .int .i64 1, .int .i64 0, .int .i64 2, .int .i64 (-1), .int .i64 100] 3)).drew.cell? ⟨ge, 0, none⟩ = some (.bool D.on) ∧ (x4.alloc (.cells #[.int .i64 0, .int .i64 1, .int .i64 0, .int .i64 2, .int .i64 (-1), .int .i64 100] 3)).drew.cell? ⟨ge, 1, none⟩ = some (.int .i64 D.due) ∧ (x4.alloc (.cells #[.int .i64 0, .int .i64 1, .int .i64 0, .int .i64 2, .int .i64 (-1), .int .i64 100] 3)).drew.cell? ⟨ge, 2, none⟩ = some (.int .i64 D.wait) ∧ (x4.alloc (.cells #[.int .i64 0, .int .i64 1, .int .i64 0, .int .i64 2, .int .i64 (-1), .int .i64 100] 3)).drew.cell? ⟨ge, 3, none⟩ = some (.int .i64 D.tries)) := ⟨E3.out.cell 0 rfl, E3.out.cell 1 rfl, E3.out.cell 2 rfl, E3.out.cell 3 rfl⟩
  have C4 : Hid ((((((x4.setCell ⟨go, 0, none⟩ (.bool D.on)).setCell ⟨go, 1, none⟩ (.int .i64 D.due)).setCell ⟨go, 2, none⟩ (.int .i64 D.wait)).setCell ⟨go, 3, none⟩ (.int .i64 D.tries))).drew.cell? ⟨ge, 0, none⟩ = some (.bool D.on) ∧ (((((x4.setCell ⟨go, 0, none⟩ (.bool D.on)).setCell ⟨go, 1, none⟩ (.int .i64 D.due)).setCell ⟨go, 2, none⟩ (.int .i64 D.wait)).setCell ⟨go, 3, none⟩ (.int .i64 D.tries))).drew.cell? ⟨ge, 1, none⟩ = some (.int .i64 D.due) ∧ (((((x4.setCell ⟨go, 0, none⟩ (.bool D.on)).setCell ⟨go, 1, none⟩ (.int .i64 D.due)).setCell ⟨go, 2, none⟩ (.int .i64 D.wait)).setCell ⟨go, 3, none⟩ (.int .i64 D.tries))).drew.cell? ⟨ge, 2, none⟩ = some (.int .i64 D.wait) ∧ (((((x4.setCell ⟨go, 0, none⟩ (.bool D.on)).setCell ⟨go, 1, none⟩ (.int .i64 D.due)).setCell ⟨go, 2, none⟩ (.int .i64 D.wait)).setCell ⟨go, 3, none⟩ (.int .i64 D.tries))).drew.cell? ⟨ge, 3, none⟩ = some (.int .i64 D.tries)) := ⟨E4.out.cell 0 rfl, E4.out.cell 1 rfl, E4.out.cell 2 rfl, E4.out.cell 3 rfl⟩
  have C1 : Hid (((((((x4.setCell ⟨go, 0, none⟩ (.bool D.on)).setCell ⟨go, 1, none⟩ (.int .i64 D.due)).setCell ⟨go, 2, none⟩ (.int .i64 D.wait)).setCell ⟨go, 3, none⟩ (.int .i64 D.tries))).alloc (.cells #[.int .i64 0, .int .i64 1, .int .i64 0, .int .i64 2, .int .i64 (-1), .int .i64 100] 3)).drew.cell? ⟨ge, 0, none⟩ = some (.bool D.on) ∧ ((((((x4.setCell ⟨go, 0, none⟩ (.bool D.on)).setCell ⟨go, 1, none⟩ (.int .i64 D.due)).setCell ⟨go, 2, none⟩ (.int .i64 D.wait)).setCell ⟨go, 3, none⟩ (.int .i64 D.tries))).alloc (.cells #[.int .i64 0, .int .i64 1, .int .i64 0, .int .i64 2, .int .i64 (-1), .int .i64 100] 3)).drew.cell? ⟨ge, 1, none⟩ = some (.int .i64 D.due) ∧ ((((((x4.setCell ⟨go, 0, none⟩ (.bool D.on)).setCell ⟨go, 1, none⟩ (.int .i64 D.due)).setCell ⟨go, 2, none⟩ (.int .i64 D.wait)).setCell ⟨go, 3, none⟩ (.int .i64 D.tries))).alloc (.cells #[.int .i64 0, .int .i64 1, .int .i64 0, .int .i64 2, .int .i64 (-1), .int .i64 100] 3)).drew.cell? ⟨ge, 2, none⟩ = some (.int .i64 D.wait) ∧ ((((((x4.setCell ⟨go, 0, none⟩ (.bool D.on)).setCell ⟨go, 1, none⟩ (.int .i64 D.due)).setCell ⟨go, 2, none⟩ (.int .i64 D.wait)).setCell ⟨go, 3, none⟩ (.int .i64 D.tries))).alloc (.cells #[.int .i64 0, .int .i64 1, .int .i64 0, .int .i64 2, .int .i64 (-1), .int .i64 100] 3)).drew.cell? ⟨ge, 3, none⟩ = some (.int .i64 D.tries)) := ⟨E1.out.cell 0 rfl, E1.out.cell 1 rfl, E1.out.cell 2 rfl, E1.out.cell 3 rfl⟩
  have C2 : Hid (((((((x4.alloc (.cells #[.int .i64 0, .int .i64 1, .int .i64 0, .int .i64 2, .int .i64 (-1), .int .i64 100] 3)).setCell ⟨go, 0, none⟩ (.bool D.on)).setCell ⟨go, 1, none⟩ (.int .i64 D.due)).setCell ⟨go, 2, none⟩ (.int .i64 D.wait)).setCell ⟨go, 3, none⟩ (.int .i64 D.tries))).drew.cell? ⟨ge, 0, none⟩ = some (.bool D.on) ∧ ((((((x4.alloc (.cells #[.int .i64 0, .int .i64 1, .int .i64 0, .int .i64 2, .int .i64 (-1), .int .i64 100] 3)).setCell ⟨go, 0, none⟩ (.bool D.on)).setCell ⟨go, 1, none⟩ (.int .i64 D.due)).setCell ⟨go, 2, none⟩ (.int .i64 D.wait)).setCell ⟨go, 3, none⟩ (.int .i64 D.tries))).drew.cell? ⟨ge, 1, none⟩ = some (.int .i64 D.due) ∧ ((((((x4.alloc (.cells #[.int .i64 0, .int .i64 1, .int .i64 0, .int .i64 2, .int .i64 (-1), .int .i64 100] 3)).setCell ⟨go, 0, none⟩ (.bool D.on)).setCell ⟨go, 1, none⟩ (.int .i64 D.due)).setCell ⟨go, 2, none⟩ (.int .i64 D.wait)).setCell ⟨go, 3, none⟩ (.int .i64 D.tries))).drew.cell? ⟨ge, 2, none⟩ = some (.int .i64 D.wait) ∧ ((((((x4.alloc (.cells #[.int .i64 0, .int .i64 1, .int .i64 0, .int .i64 2, .int .i64 (-1), .int .i64 100] 3)).setCell ⟨go, 0, none⟩ (.bool D.on)).setCell ⟨go, 1, none⟩ (.int .i64 D.due)).setCell ⟨go, 2, none⟩ (.int .i64 D.wait)).setCell ⟨go, 3, none⟩ (.int .i64 D.tries))).drew.cell? ⟨ge, 3, none⟩ = some (.int .i64 D.tries)) := ⟨E2.out.cell 0 rfl, E2.out.cell 1 rfl, E2.out.cell 2 rfl, E2.out.cell 3 rfl⟩
  clear SZ1 KP1 KP2 bA
  have e0 := (KO4.out).cell 0 rfl
  have z0 := (KO4.out).frozen 0
  have v0 := (KO4.out.alloc (.cells #[.int .i64 0, .int .i64 1, .int .i64 0, .int .i64 2, .int .i64 (-1), .int .i64 100] 3)).cell 0 rfl
  have u0 := (KO4.out.alloc (.cells #[.int .i64 0, .int .i64 1, .int .i64 0, .int .i64 2, .int .i64 (-1), .int .i64 100] 3)).frozen 0
  have e1 := (KO4.out).cell 1 rfl
  have z1 := (KO4.out).frozen 1
  have v1 := (KO4.out.alloc (.cells #[.int .i64 0, .int .i64 1, .int .i64 0, .int .i64 2, .int .i64 (-1), .int .i64 100] 3)).cell 1 rfl
  have u1 := (KO4.out.alloc (.cells #[.int .i64 0, .int .i64 1, .int .i64 0, .int .i64 2, .int .i64 (-1), .int .i64 100] 3)).frozen 1
  have e2 := (KO4.out).cell 2 rfl
  have z2 := (KO4.out).frozen 2
  have v2 := (KO4.out.alloc (.cells #[.int .i64 0, .int .i64 1, .int .i64 0, .int .i64 2, .int .i64 (-1), .int .i64 100] 3)).cell 2 rfl
  have u2 := (KO4.out.alloc (.cells #[.int .i64 0, .int .i64 1, .int .i64 0, .int .i64 2, .int .i64 (-1), .int .i64 100] 3)).frozen 2
  have e3 := (KO4.out).cell 3 rfl
  have z3 := (KO4.out).frozen 3
  have v3 := (KO4.out.alloc (.cells #[.int .i64 0, .int .i64 1, .int .i64 0, .int .i64 2, .int .i64 (-1), .int .i64 100] 3)).cell 3 rfl
  have u3 := (KO4.out.alloc (.cells #[.int .i64 0, .int .i64 1, .int .i64 0, .int .i64 2, .int .i64 (-1), .int .i64 100] 3)).frozen 3
  go_region_held3 (fun w' => w'.cell? ⟨ge, 0, none⟩ = some (.bool D.on) ∧ w'.cell? ⟨ge, 1, none⟩ = some (.int .i64 D.due) ∧ w'.cell? ⟨ge, 2, none⟩ = some (.int .i64 D.wait) ∧ w'.cell? ⟨ge, 3, none⟩ = some (.int .i64 D.tries)) (first | with_reducible exact C0.out | with_reducible exact C3.out | with_reducible exact C4.out | with_reducible exact C1.out | with_reducible exact C2.out | with_reducible exact C5.out | with_reducible exact C6.out | fail) (first
    | (go_at_call 26; (with_reducible (show Calls _ _ _ ((x4.alloc (.cells #[.int .i64 0, .int .i64 1, .int .i64 0, .int .i64 2, .int .i64 (-1), .int .i64 100] 3)).drew) _)); refine (intOfList RW3.out x4.heap.size 6 [0, 1, 0, 2, -1, 100] rfl LI3.out NI.out.1 (by omega) (by omega)).mono ?_; rintro e y1 ⟨z, rfl, _, r, b⟩; have K1 : Hid (Blk y1 go 26 [.bool false, .int .i64 0, .int .i64 0, .int .i64 0]) := KW3.out.keep (b.block go KW3.out.lt (by simp only [ne_eq, Option.some.injEq]; exact NI.out.2.1)); have B1 : Hid (Below w.heap.size w y1) := But.below b BW3.out NI.out.2.2.2.2.1; have E5 : Hid (Blk y1 ge 26 [.bool D.on, .int .i64 D.due, .int .i64 D.wait, .int .i64 D.tries]) := E3.out.keep (b.block ge E3.out.lt (by simp only [ne_eq, Option.some.injEq]; exact NI.out.2.2.2.2.2.1)); have C5 : Hid (y1.cell? ⟨ge, 0, none⟩ = some (.bool D.on) ∧ y1.cell? ⟨ge, 1, none⟩ = some (.int .i64 D.due) ∧ y1.cell? ⟨ge, 2, none⟩ = some (.int .i64 D.wait) ∧ y1.cell? ⟨ge, 3, none⟩ = some (.int .i64 D.tries)) := ⟨E5.out.cell 0 rfl, E5.out.cell 1 rfl, E5.out.cell 2 rfl, E5.out.cell 3 rfl⟩; have C6 : Hid (((((y1.setCell ⟨go, 0, none⟩ (.bool D.on)).setCell ⟨go, 1, none⟩ (.int .i64 D.due)).setCell ⟨go, 2, none⟩ (.int .i64 D.wait)).setCell ⟨go, 3, none⟩ (.int .i64 D.tries)).cell? ⟨ge, 0, none⟩ = some (.bool D.on) ∧ ((((y1.setCell ⟨go, 0, none⟩ (.bool D.on)).setCell ⟨go, 1, none⟩ (.int .i64 D.due)).setCell ⟨go, 2, none⟩ (.int .i64 D.wait)).setCell ⟨go, 3, none⟩ (.int .i64 D.tries)).cell? ⟨ge, 1, none⟩ = some (.int .i64 D.due) ∧ ((((y1.setCell ⟨go, 0, none⟩ (.bool D.on)).setCell ⟨go, 1, none⟩ (.int .i64 D.due)).setCell ⟨go, 2, none⟩ (.int .i64 D.wait)).setCell ⟨go, 3, none⟩ (.int .i64 D.tries)).cell? ⟨ge, 2, none⟩ = some (.int .i64 D.wait) ∧ ((((y1.setCell ⟨go, 0, none⟩ (.bool D.on)).setCell ⟨go, 1, none⟩ (.int .i64 D.due)).setCell ⟨go, 2, none⟩ (.int .i64 D.wait)).setCell ⟨go, 3, none⟩ (.int .i64 D.tries)).cell? ⟨ge, 3, none⟩ = some (.int .i64 D.tries)) := (by have q := E5.out.keep ((tm_kept y1 go D).block ge E5.out.lt (by have := NI.out; omega)); exact ⟨q.cell 0 rfl, q.cell 1 rfl, q.cell 2 rfl, q.cell 3 rfl⟩); have p0 := K1.out.cell 0 rfl; have q0 := K1.out.frozen 0; have p1 := K1.out.cell 1 rfl; have q1 := K1.out.frozen 1; have p2 := K1.out.cell 2 rfl; have q2 := K1.out.frozen 2; have p3 := K1.out.cell 3 rfl; have q3 := K1.out.frozen 3; clear r b)
    | (go_at_call 26; (with_reducible (show Calls _ _ _ (((((((x4.alloc (.cells #[.int .i64 0, .int .i64 1, .int .i64 0, .int .i64 2, .int .i64 (-1), .int .i64 100] 3)).setCell ⟨go, 0, none⟩ (.bool D.on)).setCell ⟨go, 1, none⟩ (.int .i64 D.due)).setCell ⟨go, 2, none⟩ (.int .i64 D.wait)).setCell ⟨go, 3, none⟩ (.int .i64 D.tries))).drew) _)); refine (intOfList RW2.out x4.heap.size 6 [0, 1, 0, 2, -1, 100] rfl LI2.out NI.out.1 (by omega) (by omega)).mono ?_; rintro e y1 ⟨z, rfl, _, r, b⟩; have K1 : Hid (Blk y1 go 26 [.bool D.on, .int .i64 D.due, .int .i64 D.wait, .int .i64 D.tries]) := KW2.out.keep (b.block go KW2.out.lt (by simp only [ne_eq, Option.some.injEq]; exact NI.out.2.1)); have B1 : Hid (Below w.heap.size w y1) := But.below b BW2.out NI.out.2.2.2.2.1; have E5 : Hid (Blk y1 ge 26 [.bool D.on, .int .i64 D.due, .int .i64 D.wait, .int .i64 D.tries]) := E2.out.keep (b.block ge E2.out.lt (by simp only [ne_eq, Option.some.injEq]; exact NI.out.2.2.2.2.2.1)); have C5 : Hid (y1.cell? ⟨ge, 0, none⟩ = some (.bool D.on) ∧ y1.cell? ⟨ge, 1, none⟩ = some (.int .i64 D.due) ∧ y1.cell? ⟨ge, 2, none⟩ = some (.int .i64 D.wait) ∧ y1.cell? ⟨ge, 3, none⟩ = some (.int .i64 D.tries)) := ⟨E5.out.cell 0 rfl, E5.out.cell 1 rfl, E5.out.cell 2 rfl, E5.out.cell 3 rfl⟩; have p0 := K1.out.cell 0 rfl; have q0 := K1.out.frozen 0; have p1 := K1.out.cell 1 rfl; have q1 := K1.out.frozen 1; have p2 := K1.out.cell 2 rfl; have q2 := K1.out.frozen 2; have p3 := K1.out.cell 3 rfl; have q3 := K1.out.frozen 3; clear r b)
    | (go_at_call 26; (with_reducible (show Calls _ _ _ (((((((x4.setCell ⟨go, 0, none⟩ (.bool D.on)).setCell ⟨go, 1, none⟩ (.int .i64 D.due)).setCell ⟨go, 2, none⟩ (.int .i64 D.wait)).setCell ⟨go, 3, none⟩ (.int .i64 D.tries))).alloc (.cells #[.int .i64 0, .int .i64 1, .int .i64 0, .int .i64 2, .int .i64 (-1), .int .i64 100] 3)).drew) _)); refine (intOfList RW1.out x4.heap.size 6 [0, 1, 0, 2, -1, 100] rfl LI1.out NI.out.1 (by omega) (by omega)).mono ?_; rintro e y1 ⟨z, rfl, _, r, b⟩; have K1 : Hid (Blk y1 go 26 [.bool D.on, .int .i64 D.due, .int .i64 D.wait, .int .i64 D.tries]) := KW1.out.keep (b.block go KW1.out.lt (by simp only [ne_eq, Option.some.injEq]; exact NI.out.2.1)); have B1 : Hid (Below w.heap.size w y1) := But.below b BW1.out NI.out.2.2.2.2.1; have E5 : Hid (Blk y1 ge 26 [.bool D.on, .int .i64 D.due, .int .i64 D.wait, .int .i64 D.tries]) := E1.out.keep (b.block ge E1.out.lt (by simp only [ne_eq, Option.some.injEq]; exact NI.out.2.2.2.2.2.1)); have C5 : Hid (y1.cell? ⟨ge, 0, none⟩ = some (.bool D.on) ∧ y1.cell? ⟨ge, 1, none⟩ = some (.int .i64 D.due) ∧ y1.cell? ⟨ge, 2, none⟩ = some (.int .i64 D.wait) ∧ y1.cell? ⟨ge, 3, none⟩ = some (.int .i64 D.tries)) := ⟨E5.out.cell 0 rfl, E5.out.cell 1 rfl, E5.out.cell 2 rfl, E5.out.cell 3 rfl⟩; have p0 := K1.out.cell 0 rfl; have q0 := K1.out.frozen 0; have p1 := K1.out.cell 1 rfl; have q1 := K1.out.frozen 1; have p2 := K1.out.cell 2 rfl; have q2 := K1.out.frozen 2; have p3 := K1.out.cell 3 rfl; have q3 := K1.out.frozen 3; clear r b))
  all_goals (first | (go_wp2; (obtain ⟨k1, k2⟩ := tm_stored D K1.out; exact bodyPost_ret (v := .tuple #[tmV D, .int .i64 (IntKind.i64.wrap (D.due + z))]) (res2 rfl (is_cell rfl k1 aggTm) (is_tmp rfl)) rfl ⟨D, (IntKind.i64.wrap (D.due + z)), rfl, k2 _ _ NI.out.2.2.1 B1.out⟩)) | (go_wp2; exact bodyPost_ret (v := .tuple #[tmV D, .int .i64 (IntKind.i64.wrap (D.due + z))]) (res2 rfl (is_cell rfl K1.out aggTm) (is_tmp rfl)) rfl ⟨D, (IntKind.i64.wrap (D.due + z)), rfl, B1.out⟩) | (obtain ⟨k1, k2⟩ := tm_stored D K1.out; exact bodyPost_ret (v := .tuple #[tmV D, .int .i64 (IntKind.i64.wrap (D.due + z))]) (res2 rfl (is_cell rfl k1 aggTm) (is_tmp rfl)) rfl ⟨D, (IntKind.i64.wrap (D.due + z)), rfl, k2 _ _ NI.out.2.2.1 B1.out⟩) | exact bodyPost_ret (v := .tuple #[tmV D, .int .i64 (IntKind.i64.wrap (D.due + z))]) (res2 rfl (is_cell rfl K1.out aggTm) (is_tmp rfl)) rfl ⟨D, (IntKind.i64.wrap (D.due + z)), rfl, B1.out⟩)

end Go.Proofs.Ytadlckgaeljdkaa.DrTm
