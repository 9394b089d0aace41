/-
  What the draws of chapter 2 hand back: bytes in new memory, of one of the lengths that the draw names; words in new memory.
-/
import Derived.Test.YtfoilfbpbjfkcaaDoorDrawB
import Derived.Test.YtfoilfbpbjfkcaaDoorStart
import Derived.Deep.RegionWith
namespace Go.Proofs.YtfoilfbpbjfkcaaDoor.DrawS
open Go.RowKit Go.Proofs.YtfoilfbpbjfkcaaDoor.Mem Go.Proofs.YtfoilfbpbjfkcaaDoor.MemI Go.Proofs.YtfoilfbpbjfkcaaDoor.Blk Go.Proofs.YtfoilfbpbjfkcaaDoor.App Go.Proofs.YtfoilfbpbjfkcaaDoor.ShaP Go.Proofs.YtfoilfbpbjfkcaaDoor.Start Go.Proofs.YtfoilfbpbjfkcaaDoor.Draw

theorem bigNo (a : Option Addr) (len cap : Nat) (w : World) (h : len ≤ 1048576) :
    Calls Tryd.prog 10 #[.slice a len cap] w fun e w' => e = .returned (.bool false) ∧ w = w' := by
  have h' : ¬ ((1048576 : Int) < (len : Int)) := by omega
  go_enter Tryd.func10, Tryd.ntmps10
  go_wp2
  go_ret
  exact ⟨rfl, rfl⟩
theorem bigYes (a : Option Addr) (len cap : Nat) (w : World) (h : 1048576 < len) :
    Calls Tryd.prog 10 #[.slice a len cap] w fun e w' => e = .returned (.bool true) ∧ w = w' := by
  have h' : (1048576 : Int) < (len : Int) := by omega
  go_enter Tryd.func10, Tryd.ntmps10
  go_wp2
  go_ret
  exact ⟨rfl, rfl⟩

set_option maxRecDepth 100000 in
set_option maxHeartbeats 800000 in
theorem drawSha (a : Option Addr) (len cap : Nat) (l : List Int) (w : World) (hl : len = l.length) (hr : Rd w a l) (hb : Bytes l) (hlen : len ≤ 1048576) :
    Calls Tryd.prog 11 #[.slice a len cap] w fun e w' =>
      ∃ (g m c : Nat) (r : List Int), e = .returned (.slice (some ⟨g, 0, none⟩) m c) ∧ m = r.length ∧ m ≤ 1000 ∧ Bytes r ∧ w.heap.size ≤ g ∧ Row w' g c r ∧ Below w.heap.size w w' := by
  have HR : Hid (Rd w a l) := hr
  have HB : Hid (Bytes l) := hb
  have HL : Hid (len = l.length) := hl
  clear hr hb hl
  go_enter Tryd.func11, Tryd.ntmps11
  go_wp2_with fail
  refine (newCur a len cap l w HL.out HR.out HB.out hlen).mono ?_
  rintro e w1 ⟨p, rfl, r1⟩
  have R1 : Hid (Ready w a len cap l p w1) := r1
  clear r1 HR HB HL
  go_wp2_with fail
  refine (intOfList (R1.out.alloc _) w1.heap.size 12 [0, 3, 54, 55, 56, 57, 63, 64, 65, 119, 120, 150] rfl (ints_new w1 _) (by have := R1.out.hc.lt; omega) (by omega) (by omega)).mono ?_
  rintro e w2 ⟨x, rfl, hx, r2, _⟩
  have hx : 0 ≤ x ∧ x ≤ 1000 := by simp at hx; omega
  obtain ⟨X, rfl⟩ := Int.eq_ofNat_of_zero_le hx.1
  have hX : X ≤ 1000 := by omega
  have R2 : Hid (Ready w a len cap l p w2) := r2
  clear r2 R1 hx
  go_wp2_with fail
  refine (bytesOf R2.out X hX).mono ?_
  rintro e w3 ⟨g, c, r, rfl, hr1, hr2, hg, row, rdy, _⟩
  have B3 : Hid (Below w.heap.size w w3) := rdy.hB
  have HG : Hid (w.heap.size ≤ g) := Nat.le_trans R2.out.hB.size hg
  have HE : Hid (X = r.length) := hr1
  have HY : Hid (Bytes r) := hr2
  have HRow : Hid (Row w3 g c r) := row
  clear rdy hg hr1 hr2 row
  go_wp2
  go_ret
  exact ⟨g, X, c, r, rfl, HE.out, hX, HY.out, HG.out, HRow.out, B3.out⟩

theorem irow_but {w w' : World} {p g c : Nat} {l : List Int} (h : IRow w g c l) (b : But p w w') (hg : g ≠ p) : IRow w' g c l :=
  h.keep (b.block g h.lt (by simp only [ne_eq, Option.some.injEq]; exact hg))
theorem irow_set {w : World} {g c : Nat} {l : List Int} (h : IRow w g c l) (k : Nat) (z : Int) : IRow (w.setCell ⟨g, k, none⟩ (.int .i64 z)) g c (l.set k z) ∧ w.grownBy (w.setCell ⟨g, k, none⟩ (.int .i64 z)) (some g) := by
  have hst := (h.owns (Nat.le_refl g)).stored k (.int .i64 z)
  rw [← List.map_set] at hst
  refine ⟨?_, hst.2⟩
  have e : l.length = (l.set k z).length := by simp
  have := hst.1
  rw [e] at this
  exact (IRow.of (l := l.set k z) this).1

set_option maxRecDepth 100000 in
set_option maxHeartbeats 2000000 in
theorem l2H {W0 : World} {a : Option Addr} {len cap : Nat} {l : List Int} {p : Nat} {w : World} (h : Ready W0 a len cap l p w) :
    Calls Tryd.prog 75 #[.pointer (some ⟨p, 0, none⟩)] w fun e w' =>
      ∃ (g m c : Nat) (r : List Int), e = .returned (.slice (some ⟨g, 0, none⟩) m c) ∧ m = r.length ∧ m ≤ 8 ∧ w.heap.size ≤ g ∧ IRow w' g c r ∧ Ready W0 a len cap l p w' ∧ But p w w' := by
  have HR : Hid (Ready W0 a len cap l p w) := h
  have HP : Hid (p < w.heap.size) := h.hc.lt
  clear h
  go_enter Tryd.func75, Tryd.ntmps75
  go_wp2_with fail
  refine (specStart w).mono ?_
  rintro e w1 ⟨rfl, r1, b1⟩
  have R1 : Hid (IRow w1 w.heap.size 8 start8) := r1
  have T1 : Hid (But p w w1) := ⟨b1.os, b1.tape, b1.output, b1.size, fun i hi _ => b1.block i hi⟩
  have D1 : Hid (Ready W0 a len cap l p w1) := HR.out.next (HR.out.hc.keep (b1.block p HP.out)) T1.out
  clear r1 b1
  obtain ⟨g, hg⟩ : ∃ g, w.heap.size = g := ⟨_, rfl⟩
  have HG : Hid (w.heap.size = g) := hg
  rw [hg] at R1 ⊢
  have HNE : Hid (g ≠ p) := by rw [← hg]; exact Nat.ne_of_gt HP.out
  clear hg
  go_wp2
  go_loopw [4] (fun i wr => ∃ (k : Nat) (r : List Int), k ≤ 8 ∧ i = .int .i64 k ∧ r.length = 8 ∧ IRow wr g 8 r ∧ Ready W0 a len cap l p wr ∧ But p w wr)
    (fun i _ => 8 - (intOf i).toNat)
  case atStart => exact ⟨0, start8, Nat.zero_le _, rfl, rfl, R1.out, D1.out, T1.out⟩
  case round =>
    obtain ⟨k, r, hk, rfl, hrl, hrow, hrdy, hbut⟩ := hrel
    have HRL : Hid (r.length = 8) := hrl
    have HRow : Hid (IRow wr g 8 r) := hrow
    have HD : Hid (Ready W0 a len cap l p wr) := hrdy
    have HT : Hid (But p w wr) := hbut
    clear R1 D1 T1 hrl hrow hrdy hbut
    by_cases hlt : k < 8
    · go_wp2_with fail
      refine (below HD.out 16777216 (by omega) (by omega)).mono ?_
      rintro e w2 ⟨x, rfl, x0, x1, r2, t2⟩
      have D2 : Hid (Ready W0 a len cap l p w2) := r2
      have T2 : Hid (But p w w2) := HT.out.trans t2
      have R2 : Hid (IRow w2 g 8 r) := irow_but HRow.out t2 HNE.out
      clear r2 t2
      go_wp2_with fail
      refine (Draw.byteOf D2.out).mono ?_
      rintro e w3 ⟨y, rfl, y0, y1, r3, t3⟩
      have R3 : Hid (IRow w3 g 8 r) := irow_but R2.out t3 HNE.out
      have hst := irow_set R3.out k (x * 256 + y)
      have hc := R3.out.cell k (by rw [HRL.out]; exact hlt)
      have hfr := (R3.out.owns (Nat.le_refl g)).frozenAt k
      have N1 : Hid (IRow (w3.setCell ⟨g, k, none⟩ (.int .i64 (x * 256 + y))) g 8 (r.set k (x * 256 + y))) := hst.1
      have T3 : Hid (But p w (w3.setCell ⟨g, k, none⟩ (.int .i64 (x * 256 + y)))) := but_grown (T2.out.trans t3) hst.2 (by rw [HG.out]; exact Nat.le_refl _)
      have D3 : Hid (Ready W0 a len cap l p (w3.setCell ⟨g, k, none⟩ (.int .i64 (x * 256 + y)))) := HR.out.next (r3.hc.keep (Below.heap_setCell _ _ _ _ (Ne.symm HNE.out))) T3.out
      have HSL : Hid ((r.set k (x * 256 + y)).length = 8) := by show _ = _; rw [List.length_set, HRL.out]
      clear hst r3 t3
      generalize r.getD k 0 = z at *
      go_wp2
      go_roundw
      case rel => exact ⟨k + 1, _, by omega, by go_num, HSL.out, N1.out, D3.out, T3.out⟩
      case measure => simp [intOf]; omega
    · go_wp2_with fail
      refine (below HD.out 8 (by omega) (by omega)).mono ?_
      rintro e w2 ⟨x, rfl, x0, x1, r2, t2⟩
      have D2 : Hid (Ready W0 a len cap l p w2) := r2
      have T2 : Hid (But p w w2) := HT.out.trans t2
      have R2 : Hid (IRow w2 g 8 r) := irow_but HRow.out t2 HNE.out
      have HP2 : Hid (p < w2.heap.size) := r2.hc.lt
      clear r2 t2
      by_cases hx0 : x = 0
      · subst hx0
        have R7 : Hid (IRow w2 g 8 (r.take 7)) := by
          obtain ⟨h1, h2, cur, h3, h4, h5⟩ := R2.out
          refine ⟨by rw [List.length_take, HRL.out]; omega, h2, cur, h3, h4, ?_⟩
          rw [List.length_take, HRL.out]
          rw [HRL.out] at h5
          have := congrArg (List.take 7) h5
          rw [List.take_take] at this
          simpa [List.map_take] using this
        have HS7 : Hid (7 = (r.take 7).length) := by show _ = _; rw [List.length_take, HRL.out]; rfl
        go_wp2
        go_ret
        exact ⟨g, 7, 8, r.take 7, rfl, HS7.out, by omega, by rw [HG.out]; exact Nat.le_refl _, R7.out, D2.out, T2.out⟩
      · by_cases hx1 : x = 1
        · subst hx1
          have e0 : ((1 : Int) == 0) = false := by decide
          go_wp2_with fail
          refine (below D2.out 8 (by omega) (by omega)).mono ?_
          rintro e w3 ⟨y, rfl, y0, y1, r3, t3⟩
          obtain ⟨Y, rfl⟩ := Int.eq_ofNat_of_zero_le y0
          have D3 : Hid (Ready W0 a len cap l p w3) := r3
          have T3 : Hid (But p w w3) := T2.out.trans t3
          have R3 : Hid (IRow w3 g 8 r) := irow_but R2.out t3 HNE.out
          have hp3 := r3.hc.lt
          clear r3 t3
          go_wp2_with fail
          refine (intOfList (D3.out.alloc _) w3.heap.size 2 [-1, 4294967296] rfl (ints_new w3 _) (by omega) (by omega) (by omega)).mono ?_
          rintro e w4 ⟨z, rfl, _, r4, t4⟩
          have T4 : But p w w4 := (T3.out.alloc _).trans t4
          have R4 : IRow w4 g 8 r := irow_but (irow_alloc R3.out _) t4 HNE.out
          have hst := irow_set R4 Y z
          have hc := R4.cell Y (by rw [HRL.out]; omega)
          have hfr := (R4.owns (Nat.le_refl g)).frozenAt Y
          have N1 : Hid (IRow (w4.setCell ⟨g, Y, none⟩ (.int .i64 z)) g 8 (r.set Y z)) := hst.1
          have T5 : Hid (But p w (w4.setCell ⟨g, Y, none⟩ (.int .i64 z))) := but_grown T4 hst.2 (by rw [HG.out]; exact Nat.le_refl _)
          have D5 : Hid (Ready W0 a len cap l p (w4.setCell ⟨g, Y, none⟩ (.int .i64 z))) := HR.out.next (r4.hc.keep (Below.heap_setCell _ _ _ _ (Ne.symm HNE.out))) T5.out
          have HSL : Hid (8 = (r.set Y z).length) := by show _ = _; rw [List.length_set, HRL.out]
          have hYI : (Y : Int) < 8 := by omega
          clear hst r4 t4 T4 R4
          generalize r.getD Y 0 = v at *
          go_wp2
          go_ret
          exact ⟨g, 8, 8, _, rfl, HSL.out, by omega, by rw [HG.out]; exact Nat.le_refl _, N1.out, D5.out, T5.out⟩
        · have e0 : (x == 0) = false := by simpa using hx0
          have e1 : (x == 1) = false := by simpa using hx1
          go_wp2
          go_ret
          exact ⟨g, 8, 8, r, rfl, HRL.out.symm, by omega, by rw [HG.out]; exact Nat.le_refl _, R2.out, D2.out, T2.out⟩
end Go.Proofs.YtfoilfbpbjfkcaaDoor.DrawS
