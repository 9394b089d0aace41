/-
  What l2Hash and DrawHashAdd give: a hash, whatever it holds; and bytes in new memory.
-/
import Derived.Test.YtfoilfbpbjfkcaaDoorDrawS
import Derived.Test.YtfoilfbpbjfkcaaDoorHashT
import Derived.Handy
import Derived.Deep.RegionHeld3
namespace Go.Proofs.YtfoilfbpbjfkcaaDoor.DrawH
open Go.RowKit Go.Proofs.YtfoilfbpbjfkcaaDoor.Mem Go.Proofs.YtfoilfbpbjfkcaaDoor.MemI Go.Proofs.YtfoilfbpbjfkcaaDoor.Blk Go.Proofs.YtfoilfbpbjfkcaaDoor.App Go.Proofs.YtfoilfbpbjfkcaaDoor.ShaP Go.Proofs.YtfoilfbpbjfkcaaDoor.Start Go.Proofs.YtfoilfbpbjfkcaaDoor.Draw Go.Proofs.YtfoilfbpbjfkcaaDoor.DrawS Go.Proofs.YtfoilfbpbjfkcaaDoor.Hashs Go.Proofs.YtfoilfbpbjfkcaaDoor.HashO Go.Proofs.YtfoilfbpbjfkcaaDoor.HashT Go.Proofs.YtfoilfbpbjfkcaaDoor.HashE

theorem but_of_below {p : Nat} {w w' : World} (h : Below w.heap.size w w') : But p w w' :=
  ⟨h.os, h.tape, h.output, h.size, fun i hi _ => h.block i hi⟩
theorem Ready.later {W0 : World} {a : Option Addr} {len cap : Nat} {l : List Int} {p : Nat} {w w' : World} (h : Ready W0 a len cap l p w) (b : Below w.heap.size w w') : Ready W0 a len cap l p w' :=
  h.next (h.hc.keep (b.block p h.hc.lt)) (but_of_below b)
theorem Blk.but {w w' : World} {p g : Nat} {t : TypeId} {cs : List Value} (h : Blk w g t cs) (b : But p w w') (hg : g ≠ p) : Blk w' g t cs := h.keep (b.block g h.lt (by simpa using hg))
theorem Ready.store {W0 : World} {a : Option Addr} {len cap : Nat} {l : List Int} {p : Nat} {w : World} (h : Ready W0 a len cap l p w) (g i : Nat) (v : Value) (hg : g ≠ p) (h0 : W0.heap.size ≤ g) : Ready W0 a len cap l p (w.setCell ⟨g, i, none⟩ v) :=
  ⟨h.hl, h.hr, h.hb, h.hlen, h.hB.setCell h0 _, h.hp, h.hc.keep (Below.heap_setCell _ _ _ p (Ne.symm hg))⟩

/-- A hash, whatever it holds. -/
def AnyHash (v : Value) : Prop := ∃ s0 n0 c0 s1 n1 c1 N, v = hashV s0 n0 c0 s1 n1 c1 N

set_option maxRecDepth 100000 in
set_option maxHeartbeats 4000000 in
theorem l2Hash {W0 : World} {a : Option Addr} {len cap : Nat} {l : List Int} {p : Nat} {w : World} (h : Ready W0 a len cap l p w) :
    Calls Tryd.prog 47 #[.pointer (some ⟨p, 0, none⟩)] w fun e w' => ∃ v, e = .returned v ∧ AnyHash v ∧ Ready W0 a len cap l p w' := by
  have HR : Hid (Ready W0 a len cap l p w) := h
  obtain ⟨w0, hw0⟩ : ∃ w0, w.alloc (.cells #[.slice none 0 0, .slice none 0 0, .int .i64 0] 27) = w0 := ⟨_, rfl⟩
  have HW0 : Hid (w.alloc (.cells #[.slice none 0 0, .slice none 0 0, .int .i64 0] 27) = w0) := hw0
  have R0 : Hid (Ready W0 a len cap l p w0) := by rw [← hw0]; exact h.alloc _
  have K0 : Hid (Blk w0 w.heap.size 27 [.slice none 0 0, .slice none 0 0, .int .i64 0]) := by rw [← hw0]; exact Blk.new w 27 [.slice none 0 0, .slice none 0 0, .int .i64 0]
  have NP : Hid (w.heap.size ≠ p) := Nat.ne_of_gt h.hc.lt
  have SW : Hid (W0.heap.size ≤ w.heap.size) := h.hB.size
  clear hw0 h HR
  go_enter Tryd.func47, Tryd.ntmps47
  go_wp2_with fail
  rw [HW0.out]
  refine (specHashNew w0).mono ?_
  rintro e w1 ⟨gh, rfl, kh, rh, b1⟩
  have R1 : Hid (Ready W0 a len cap l p w1) := Ready.later R0.out b1
  have K1 : Hid (Blk w1 w.heap.size 27 [.slice none 0 0, .slice none 0 0, .int .i64 0]) := K0.out.later b1
  have RH1 : Hid (IRow w1 gh 8 start8) := rh
  have NH : Hid (gh ≠ p) := Nat.ne_of_gt (Nat.lt_of_lt_of_le R0.out.hc.lt kh)
  clear kh rh b1 R0 K0
  unfold hashV
  go_wp2_with fail
  refine (below R1.out 130 (by omega) (by omega)).mono ?_
  rintro e w2 ⟨x, rfl, x0, x1, r2, b2⟩
  obtain ⟨X, rfl⟩ := Int.eq_ofNat_of_zero_le x0
  have hX : X ≤ 1000 := by omega
  have R2 : Hid (Ready W0 a len cap l p w2) := r2
  have K2 : Hid (Blk w2 w.heap.size 27 [.slice none 0 0, .slice none 0 0, .int .i64 0]) := Blk.but K1.out b2 NP.out
  have RH2 : Hid (IRow w2 gh 8 start8) := irow_but RH1.out b2 NH.out
  clear r2 b2 R1 K1 RH1 x0 x1
  go_wp2_with fail
  refine (bytesOf R2.out X hX).mono ?_
  rintro e w3 ⟨g, c, r, rfl, hr1, hr2, hg, row, rdy, b3⟩
  have R3 : Hid (Ready W0 a len cap l p w3) := rdy
  have K3 : Hid (Blk w3 w.heap.size 27 [.slice none 0 0, .slice none 0 0, .int .i64 0]) := Blk.but K2.out b3 NP.out
  have RH3 : Hid (IRow w3 gh 8 start8) := irow_but RH2.out b3 NH.out
  have HE : Hid (X = r.length) := hr1
  have HY : Hid (Bytes r) := hr2
  have HRow : Hid (Row w3 g c r) := row
  clear rdy hg hr1 hr2 row b3 R2 K2 RH2
  go_wp2_with fail
  refine (specHashAdd (some ⟨gh, 0, none⟩) 8 8 none 0 0 0 start8 [] (some ⟨g, 0, none⟩) X c r w3 rfl rfl RH3.out.rd (by intro i hi; cases hi) (by intro z hz; cases hz) (by omega) (by omega) (by intro e; cases e) (fun _ => rfl) HE.out HRow.out.rd (by intro e; cases e) HY.out (by omega)).mono ?_
  rintro e w4 ⟨gh4, m0, ch, gb4, m1, cb, rfl, q1, q2, q3, q4, q5, q6, q7, b4⟩
  clear q1 q2 q3 q4 q5 q6 q7
  have R4 : Hid (Ready W0 a len cap l p w4) := Ready.later R3.out b4
  have K4 : Hid (Blk w4 w.heap.size 27 [.slice none 0 0, .slice none 0 0, .int .i64 0]) := K3.out.later b4
  generalize addN start8 [] 0 r = N at *
  clear b4 R3 K3 RH3 HRow HY HE
  unfold hashV
  obtain ⟨w5, hw5⟩ : ∃ w5, w4.alloc (.cells #[.slice (some ⟨gh4, 0, none⟩) m0 ch, .slice (some ⟨gb4, 0, none⟩) m1 cb, .int .i64 N] 27) = w5 := ⟨_, rfl⟩
  have HW5 : Hid (w4.alloc (.cells #[.slice (some ⟨gh4, 0, none⟩) m0 ch, .slice (some ⟨gb4, 0, none⟩) m1 cb, .int .i64 N] 27) = w5) := hw5
  have R5 : Hid (Ready W0 a len cap l p w5) := by rw [← hw5]; exact R4.out.alloc _
  have K5 : Hid (Blk w5 w.heap.size 27 [.slice none 0 0, .slice none 0 0, .int .i64 0]) := by rw [← hw5]; exact K4.out.alloc _
  have O5 : Hid (Blk w5 w4.heap.size 27 [.slice (some ⟨gh4, 0, none⟩) m0 ch, .slice (some ⟨gb4, 0, none⟩) m1 cb, .int .i64 N]) := by rw [← hw5]; exact Blk.new w4 27 [.slice (some ⟨gh4, 0, none⟩) m0 ch, .slice (some ⟨gb4, 0, none⟩) m1 cb, .int .i64 N]
  have NO : Hid (w4.heap.size ≠ p) := Nat.ne_of_gt R4.out.hc.lt
  have NK : Hid (w.heap.size ≠ w4.heap.size) := Nat.ne_of_lt K4.out.lt
  have SO : Hid (W0.heap.size ≤ w4.heap.size) := R4.out.hB.size
  clear hw5 K4 R4
  go_wp2_with fail
  rw [HW5.out]
  refine (below R5.out 8 (by omega) (by omega)).mono ?_
  rintro e w6 ⟨y, rfl, y0, y1, r6, b6⟩
  have R6 : Hid (Ready W0 a len cap l p w6) := r6
  have K6 : Hid (Blk w6 w.heap.size 27 [.slice none 0 0, .slice none 0 0, .int .i64 0]) := Blk.but K5.out b6 NP.out
  have O6 : Hid (Blk w6 w4.heap.size 27 [.slice (some ⟨gh4, 0, none⟩) m0 ch, .slice (some ⟨gb4, 0, none⟩) m1 cb, .int .i64 N]) := Blk.but O5.out b6 NO.out
  clear r6 b6 R5 K5 O5 HW5
  by_cases c0 : y = 0
  · subst c0
    have y2 : ((0 : Int) == 0) = true := rfl
    go_wp2_with fail
    refine (l2H R6.out).mono ?_
    rintro e w7 ⟨g7, m7, c7, q7, rfl, e7, z7, k7, i7, r7, b7⟩
    have R7 : Hid (Ready W0 a len cap l p w7) := r7
    have K7 : Hid (Blk w7 w.heap.size 27 [.slice none 0 0, .slice none 0 0, .int .i64 0]) := Blk.but K6.out b7 NP.out
    have O7 : Hid (Blk w7 w4.heap.size 27 [.slice (some ⟨gh4, 0, none⟩) m0 ch, .slice (some ⟨gb4, 0, none⟩) m1 cb, .int .i64 N]) := Blk.but O6.out b7 NO.out
    clear e7 z7 k7 i7 r7 b7 R6 K6 O6
    obtain ⟨w8, hw8⟩ : ∃ w8, w7.setCell ⟨w4.heap.size, 0, none⟩ (.slice (some ⟨g7, 0, none⟩) m7 c7) = w8 := ⟨_, rfl⟩
    have Hw8 : Hid (w7.setCell ⟨w4.heap.size, 0, none⟩ (.slice (some ⟨g7, 0, none⟩) m7 c7) = w8) := hw8
    have Ow8 : Hid (Blk w8 w4.heap.size 27 [.slice (some ⟨g7, 0, none⟩) m7 c7, .slice (some ⟨gb4, 0, none⟩) m1 cb, .int .i64 N]) := by rw [← hw8]; exact O7.out.set 0 _ (by simp [maxLen])
    have Kw8 : Hid (Blk w8 w.heap.size 27 [.slice none 0 0, .slice none 0 0, .int .i64 0]) := by rw [← hw8]; exact K7.out.other NK.out _
    have Rw8 : Hid (Ready W0 a len cap l p w8) := by rw [← hw8]; exact Ready.store R7.out _ _ _ NO.out SO.out
    have sw8 := O7.out.cell 0 rfl
    have tw8 := O7.out.frozen 0
    clear hw8
    go_upto_region 10 with fail
    try rw [Hw8.out]
    clear sw8 tw8 Hw8
    have o0 := Ow8.out.cell 0 rfl
    have o1 := Ow8.out.cell 1 rfl
    have o2 := Ow8.out.cell 2 rfl
    have k0 := Kw8.out.cell 0 rfl
    have k1 := Kw8.out.cell 1 rfl
    have k2 := Kw8.out.cell 2 rfl
    have f0 := Kw8.out.frozen 0
    have f1 := Kw8.out.frozen 1
    have f2 := Kw8.out.frozen 2
    have FK : Hid (Blk (((w8.setCell ⟨w.heap.size, 0, none⟩ (.slice (some ⟨g7, 0, none⟩) m7 c7)).setCell ⟨w.heap.size, 1, none⟩ (.slice (some ⟨gb4, 0, none⟩) m1 cb)).setCell ⟨w.heap.size, 2, none⟩ (.int .i64 N)) w.heap.size 27 [.slice (some ⟨g7, 0, none⟩) m7 c7, .slice (some ⟨gb4, 0, none⟩) m1 cb, .int .i64 N]) := set3_new Kw8.out
    have FR : Hid (Ready W0 a len cap l p (((w8.setCell ⟨w.heap.size, 0, none⟩ (.slice (some ⟨g7, 0, none⟩) m7 c7)).setCell ⟨w.heap.size, 1, none⟩ (.slice (some ⟨gb4, 0, none⟩) m1 cb)).setCell ⟨w.heap.size, 2, none⟩ (.int .i64 N))) := Ready.store (Ready.store (Ready.store Rw8.out _ _ _ NP.out SW.out) _ _ _ NP.out SW.out) _ _ _ NP.out SW.out
    go_wp2
    exact bodyPost_ret (v := .agg #[.slice (some ⟨g7, 0, none⟩) m7 c7, .slice (some ⟨gb4, 0, none⟩) m1 cb, .int .i64 N]) (results_cell_row rfl _ _ w.heap.size 27 _ (0, 0) _ rfl FK.out Tryd.underlying27 rfl infoHash) rfl ⟨_, rfl, ⟨_, _, _, _, _, _, _, rfl⟩, FR.out⟩
  · have d0 : (y == 0) = false := by simpa using c0
    by_cases c1 : y = 1
    · subst c1
      clear d0 c0
      have L5 : Hid (Ready W0 a len cap l p (w6.alloc (.cells #[.int .i64 (-1), .int .i64 64, .int .i64 1048576, .int .i64 1048577, .int .i64 1048575] 3))) := R6.out.alloc _
      go_wp2_with fail
      refine (intOfList L5.out w6.heap.size 5 [-1, 64, 1048576, 1048577, 1048575] rfl (ints_new w6 _) (by have := R6.out.hc.lt; omega) (by omega) (by omega)).mono ?_
      rintro e w7 ⟨z, rfl, hz, r7, b7⟩
      have R7 : Hid (Ready W0 a len cap l p w7) := r7
      have K7 : Hid (Blk w7 w.heap.size 27 [.slice none 0 0, .slice none 0 0, .int .i64 0]) := Blk.but (K6.out.alloc _) b7 NP.out
      have O7 : Hid (Blk w7 w4.heap.size 27 [.slice (some ⟨gh4, 0, none⟩) m0 ch, .slice (some ⟨gb4, 0, none⟩) m1 cb, .int .i64 N]) := Blk.but (O6.out.alloc _) b7 NO.out
      clear hz r7 b7 R6 K6 O6 L5
      obtain ⟨w8, hw8⟩ : ∃ w8, w7.setCell ⟨w4.heap.size, 2, none⟩ (.int .i64 z) = w8 := ⟨_, rfl⟩
      have Hw8 : Hid (w7.setCell ⟨w4.heap.size, 2, none⟩ (.int .i64 z) = w8) := hw8
      have Ow8 : Hid (Blk w8 w4.heap.size 27 [.slice (some ⟨gh4, 0, none⟩) m0 ch, .slice (some ⟨gb4, 0, none⟩) m1 cb, .int .i64 z]) := by rw [← hw8]; exact O7.out.set 2 _ (by simp [maxLen])
      have Kw8 : Hid (Blk w8 w.heap.size 27 [.slice none 0 0, .slice none 0 0, .int .i64 0]) := by rw [← hw8]; exact K7.out.other NK.out _
      have Rw8 : Hid (Ready W0 a len cap l p w8) := by rw [← hw8]; exact Ready.store R7.out _ _ _ NO.out SO.out
      have sw8 := O7.out.cell 2 rfl
      have tw8 := O7.out.frozen 2
      clear hw8
      go_upto_region 10 with fail
      try rw [Hw8.out]
      clear sw8 tw8 Hw8
      have o0 := Ow8.out.cell 0 rfl
      have o1 := Ow8.out.cell 1 rfl
      have o2 := Ow8.out.cell 2 rfl
      have k0 := Kw8.out.cell 0 rfl
      have k1 := Kw8.out.cell 1 rfl
      have k2 := Kw8.out.cell 2 rfl
      have f0 := Kw8.out.frozen 0
      have f1 := Kw8.out.frozen 1
      have f2 := Kw8.out.frozen 2
      have FK : Hid (Blk (((w8.setCell ⟨w.heap.size, 0, none⟩ (.slice (some ⟨gh4, 0, none⟩) m0 ch)).setCell ⟨w.heap.size, 1, none⟩ (.slice (some ⟨gb4, 0, none⟩) m1 cb)).setCell ⟨w.heap.size, 2, none⟩ (.int .i64 z)) w.heap.size 27 [.slice (some ⟨gh4, 0, none⟩) m0 ch, .slice (some ⟨gb4, 0, none⟩) m1 cb, .int .i64 z]) := set3_new Kw8.out
      have FR : Hid (Ready W0 a len cap l p (((w8.setCell ⟨w.heap.size, 0, none⟩ (.slice (some ⟨gh4, 0, none⟩) m0 ch)).setCell ⟨w.heap.size, 1, none⟩ (.slice (some ⟨gb4, 0, none⟩) m1 cb)).setCell ⟨w.heap.size, 2, none⟩ (.int .i64 z))) := Ready.store (Ready.store (Ready.store Rw8.out _ _ _ NP.out SW.out) _ _ _ NP.out SW.out) _ _ _ NP.out SW.out
      go_wp2
      exact bodyPost_ret (v := .agg #[.slice (some ⟨gh4, 0, none⟩) m0 ch, .slice (some ⟨gb4, 0, none⟩) m1 cb, .int .i64 z]) (results_cell_row rfl _ _ w.heap.size 27 _ (0, 0) _ rfl FK.out Tryd.underlying27 rfl infoHash) rfl ⟨_, rfl, ⟨_, _, _, _, _, _, _, rfl⟩, FR.out⟩
    · have d1 : (y == 1) = false := by simpa using c1
      by_cases c2 : y = 2
      · subst c2
        clear d0 d1 c0 c1
        go_wp2_with fail
        refine (intOfList (R6.out.alloc _) w6.heap.size 3 [0, 63, 64] rfl (ints_new w6 _) (by have := R6.out.hc.lt; omega) (by omega) (by omega)).mono ?_
        rintro e w7 ⟨z, rfl, hz, r7, b7⟩
        have hz : 0 ≤ z ∧ z ≤ 1000 := by simp at hz; omega
        obtain ⟨Z, rfl⟩ := Int.eq_ofNat_of_zero_le hz.1
        have hZ : Z ≤ 1000 := by omega
        have R7 : Hid (Ready W0 a len cap l p w7) := r7
        have K7 : Hid (Blk w7 w.heap.size 27 [.slice none 0 0, .slice none 0 0, .int .i64 0]) := Blk.but (K6.out.alloc _) b7 NP.out
        have O7 : Hid (Blk w7 w4.heap.size 27 [.slice (some ⟨gh4, 0, none⟩) m0 ch, .slice (some ⟨gb4, 0, none⟩) m1 cb, .int .i64 N]) := Blk.but (O6.out.alloc _) b7 NO.out
        clear hz r7 b7 R6 K6 O6
        go_wp2_with fail
        refine (bytesOf R7.out Z hZ).mono ?_
        rintro e w8 ⟨g8, c8, q8, rfl, e8, y8, k8, row8, r8, b8⟩
        have R8 : Hid (Ready W0 a len cap l p w8) := r8
        have K8 : Hid (Blk w8 w.heap.size 27 [.slice none 0 0, .slice none 0 0, .int .i64 0]) := Blk.but K7.out b8 NP.out
        have O8 : Hid (Blk w8 w4.heap.size 27 [.slice (some ⟨gh4, 0, none⟩) m0 ch, .slice (some ⟨gb4, 0, none⟩) m1 cb, .int .i64 N]) := Blk.but O7.out b8 NO.out
        clear e8 y8 k8 row8 r8 b8 R7 K7 O7
        obtain ⟨w9, hw9⟩ : ∃ w9, w8.setCell ⟨w4.heap.size, 1, none⟩ (.slice (some ⟨g8, 0, none⟩) Z c8) = w9 := ⟨_, rfl⟩
        have Hw9 : Hid (w8.setCell ⟨w4.heap.size, 1, none⟩ (.slice (some ⟨g8, 0, none⟩) Z c8) = w9) := hw9
        have Ow9 : Hid (Blk w9 w4.heap.size 27 [.slice (some ⟨gh4, 0, none⟩) m0 ch, .slice (some ⟨g8, 0, none⟩) Z c8, .int .i64 N]) := by rw [← hw9]; exact O8.out.set 1 _ (by simp [maxLen])
        have Kw9 : Hid (Blk w9 w.heap.size 27 [.slice none 0 0, .slice none 0 0, .int .i64 0]) := by rw [← hw9]; exact K8.out.other NK.out _
        have Rw9 : Hid (Ready W0 a len cap l p w9) := by rw [← hw9]; exact Ready.store R8.out _ _ _ NO.out SO.out
        have sw9 := O8.out.cell 1 rfl
        have tw9 := O8.out.frozen 1
        clear hw9
        go_upto_region 9 with fail
        try rw [Hw9.out]
        clear sw9 tw9 Hw9
        go_wp2_with fail
        refine (intOfList (Rw9.out.alloc _) w9.heap.size 5 [0, 63, 64, 1048512, 1048575] rfl (ints_new w9 _) (by have := Rw9.out.hc.lt; omega) (by omega) (by omega)).mono ?_
        rintro e w10 ⟨u, rfl, hu, r10, b10⟩
        have R10 : Hid (Ready W0 a len cap l p w10) := r10
        have K10 : Hid (Blk w10 w.heap.size 27 [.slice none 0 0, .slice none 0 0, .int .i64 0]) := Blk.but (Kw9.out.alloc _) b10 NP.out
        have O10 : Hid (Blk w10 w4.heap.size 27 [.slice (some ⟨gh4, 0, none⟩) m0 ch, .slice (some ⟨g8, 0, none⟩) Z c8, .int .i64 N]) := Blk.but (Ow9.out.alloc _) b10 NO.out
        clear hu r10 b10 Rw9 Kw9 Ow9
        obtain ⟨w11, hw11⟩ : ∃ w11, w10.setCell ⟨w4.heap.size, 2, none⟩ (.int .i64 u) = w11 := ⟨_, rfl⟩
        have Hw11 : Hid (w10.setCell ⟨w4.heap.size, 2, none⟩ (.int .i64 u) = w11) := hw11
        have Ow11 : Hid (Blk w11 w4.heap.size 27 [.slice (some ⟨gh4, 0, none⟩) m0 ch, .slice (some ⟨g8, 0, none⟩) Z c8, .int .i64 u]) := by rw [← hw11]; exact O10.out.set 2 _ (by simp [maxLen])
        have Kw11 : Hid (Blk w11 w.heap.size 27 [.slice none 0 0, .slice none 0 0, .int .i64 0]) := by rw [← hw11]; exact K10.out.other NK.out _
        have Rw11 : Hid (Ready W0 a len cap l p w11) := by rw [← hw11]; exact Ready.store R10.out _ _ _ NO.out SO.out
        have sw11 := O10.out.cell 2 rfl
        have tw11 := O10.out.frozen 2
        clear hw11
        go_upto_region 10 with fail
        try rw [Hw11.out]
        clear sw11 tw11 Hw11
        have o0 := Ow11.out.cell 0 rfl
        have o1 := Ow11.out.cell 1 rfl
        have o2 := Ow11.out.cell 2 rfl
        have k0 := Kw11.out.cell 0 rfl
        have k1 := Kw11.out.cell 1 rfl
        have k2 := Kw11.out.cell 2 rfl
        have f0 := Kw11.out.frozen 0
        have f1 := Kw11.out.frozen 1
        have f2 := Kw11.out.frozen 2
        have FK : Hid (Blk (((w11.setCell ⟨w.heap.size, 0, none⟩ (.slice (some ⟨gh4, 0, none⟩) m0 ch)).setCell ⟨w.heap.size, 1, none⟩ (.slice (some ⟨g8, 0, none⟩) Z c8)).setCell ⟨w.heap.size, 2, none⟩ (.int .i64 u)) w.heap.size 27 [.slice (some ⟨gh4, 0, none⟩) m0 ch, .slice (some ⟨g8, 0, none⟩) Z c8, .int .i64 u]) := set3_new Kw11.out
        have FR : Hid (Ready W0 a len cap l p (((w11.setCell ⟨w.heap.size, 0, none⟩ (.slice (some ⟨gh4, 0, none⟩) m0 ch)).setCell ⟨w.heap.size, 1, none⟩ (.slice (some ⟨g8, 0, none⟩) Z c8)).setCell ⟨w.heap.size, 2, none⟩ (.int .i64 u))) := Ready.store (Ready.store (Ready.store Rw11.out _ _ _ NP.out SW.out) _ _ _ NP.out SW.out) _ _ _ NP.out SW.out
        go_wp2
        exact bodyPost_ret (v := .agg #[.slice (some ⟨gh4, 0, none⟩) m0 ch, .slice (some ⟨g8, 0, none⟩) Z c8, .int .i64 u]) (results_cell_row rfl _ _ w.heap.size 27 _ (0, 0) _ rfl FK.out Tryd.underlying27 rfl infoHash) rfl ⟨_, rfl, ⟨_, _, _, _, _, _, _, rfl⟩, FR.out⟩
      · have d2 : (y == 2) = false := by simpa using c2
        have o0 := O6.out.cell 0 rfl
        have o1 := O6.out.cell 1 rfl
        have o2 := O6.out.cell 2 rfl
        have k0 := K6.out.cell 0 rfl
        have k1 := K6.out.cell 1 rfl
        have k2 := K6.out.cell 2 rfl
        have f0 := K6.out.frozen 0
        have f1 := K6.out.frozen 1
        have f2 := K6.out.frozen 2
        have FK : Hid (Blk (((w6.setCell ⟨w.heap.size, 0, none⟩ (.slice (some ⟨gh4, 0, none⟩) m0 ch)).setCell ⟨w.heap.size, 1, none⟩ (.slice (some ⟨gb4, 0, none⟩) m1 cb)).setCell ⟨w.heap.size, 2, none⟩ (.int .i64 N)) w.heap.size 27 [.slice (some ⟨gh4, 0, none⟩) m0 ch, .slice (some ⟨gb4, 0, none⟩) m1 cb, .int .i64 N]) := set3_new K6.out
        have FR : Hid (Ready W0 a len cap l p (((w6.setCell ⟨w.heap.size, 0, none⟩ (.slice (some ⟨gh4, 0, none⟩) m0 ch)).setCell ⟨w.heap.size, 1, none⟩ (.slice (some ⟨gb4, 0, none⟩) m1 cb)).setCell ⟨w.heap.size, 2, none⟩ (.int .i64 N))) := Ready.store (Ready.store (Ready.store R6.out _ _ _ NP.out SW.out) _ _ _ NP.out SW.out) _ _ _ NP.out SW.out
        go_wp2
        exact bodyPost_ret (v := .agg #[.slice (some ⟨gh4, 0, none⟩) m0 ch, .slice (some ⟨gb4, 0, none⟩) m1 cb, .int .i64 N]) (results_cell_row rfl _ _ w.heap.size 27 _ (0, 0) _ rfl FK.out Tryd.underlying27 rfl infoHash) rfl ⟨_, rfl, ⟨_, _, _, _, _, _, _, rfl⟩, FR.out⟩

set_option maxRecDepth 100000 in
set_option maxHeartbeats 4000000 in
theorem drawHashAdd (a : Option Addr) (len cap : Nat) (l : List Int) (w : World) (hl : len = l.length) (hr : Rd w a l) (hb : Bytes l) (hlen : len ≤ 1048576) :
    Calls Tryd.prog 12 #[.slice a len cap] w fun e w' =>
      ∃ (v : Value) (g m c : Nat) (r : List Int), e = .returned (.tuple #[v, .slice (some ⟨g, 0, none⟩) m c]) ∧ AnyHash v ∧ m = r.length ∧ m ≤ 1000 ∧ Bytes r ∧ w.heap.size ≤ g ∧ Row w' g c r ∧ Below w.heap.size w w' := by
  have HR : Hid (Rd w a l) := hr
  have HB : Hid (Bytes l) := hb
  have HL : Hid (len = l.length) := hl
  obtain ⟨w0, hw0⟩ : ∃ w0, w.alloc (.cells #[.slice none 0 0, .slice none 0 0, .int .i64 0] 27) = w0 := ⟨_, rfl⟩
  have HW0 : Hid (w.alloc (.cells #[.slice none 0 0, .slice none 0 0, .int .i64 0] 27) = w0) := hw0
  have K0 : Hid (Blk w0 w.heap.size 27 [.slice none 0 0, .slice none 0 0, .int .i64 0]) := by rw [← hw0]; exact Blk.new w 27 [.slice none 0 0, .slice none 0 0, .int .i64 0]
  have B0 : Hid (Below w.heap.size w w0) := by rw [← hw0]; exact (Below.refl _ _).alloc (Nat.le_refl _) _
  have R0 : Hid (Rd w0 a l) := HR.out.later B0.out (Nat.le_refl _)
  clear hw0 hr hb hl HR
  go_enter Tryd.func12, Tryd.ntmps12
  go_wp2_with fail
  rw [HW0.out]
  refine (newCur a len cap l w0 HL.out R0.out HB.out hlen).mono ?_
  rintro e w1 ⟨p, rfl, r1⟩
  have R1 : Hid (Ready w0 a len cap l p w1) := r1
  have K1 : Hid (Blk w1 w.heap.size 27 [.slice none 0 0, .slice none 0 0, .int .i64 0]) := K0.out.later r1.hB
  have NP : Hid (w.heap.size ≠ p) := Nat.ne_of_lt (Nat.lt_of_lt_of_le K0.out.lt r1.hp)
  clear r1 HL HB R0 HW0
  go_wp2_with fail
  refine (l2Hash R1.out).mono ?_
  rintro e w2 ⟨v, rfl, hv, r2⟩
  obtain ⟨s0, n0, c0, s1, n1, c1, N, rfl⟩ := hv
  have R2 : Hid (Ready w0 a len cap l p w2) := r2
  have K2 : Hid (Blk w2 w.heap.size 27 [.slice none 0 0, .slice none 0 0, .int .i64 0]) := K0.out.later r2.hB
  clear r2 R1 K1
  unfold hashV
  obtain ⟨w3, hw3⟩ : ∃ w3, w2.alloc (.cells #[.slice s0 n0 c0, .slice s1 n1 c1, .int .i64 N] 27) = w3 := ⟨_, rfl⟩
  have HW3 : Hid (w2.alloc (.cells #[.slice s0 n0 c0, .slice s1 n1 c1, .int .i64 N] 27) = w3) := hw3
  have R3 : Hid (Ready w0 a len cap l p w3) := by rw [← hw3]; exact R2.out.alloc _
  have K3 : Hid (Blk w3 w.heap.size 27 [.slice none 0 0, .slice none 0 0, .int .i64 0]) := by rw [← hw3]; exact K2.out.alloc _
  have O3 : Hid (Blk w3 w2.heap.size 27 [.slice s0 n0 c0, .slice s1 n1 c1, .int .i64 N]) := by rw [← hw3]; exact Blk.new w2 27 [.slice s0 n0 c0, .slice s1 n1 c1, .int .i64 N]
  have NO : Hid (w2.heap.size ≠ p) := Nat.ne_of_gt R2.out.hc.lt
  have NK : Hid (w.heap.size ≠ w2.heap.size) := Nat.ne_of_lt K2.out.lt
  have SW : Hid (w.heap.size ≤ w2.heap.size) := Nat.le_of_lt K2.out.lt
  clear hw3 R2 K2
  go_upto_region 3 with fail
  try rw [HW3.out]
  clear HW3
  have o0 := O3.out.cell 0 rfl
  have o1 := O3.out.cell 1 rfl
  have o2 := O3.out.cell 2 rfl
  have A3 : Hid (Ready w0 a len cap l p (w3.drew.alloc (.cells #[.int .i64 0, .int .i64 1, .int .i64 10, .int .i64 63, .int .i64 64, .int .i64 65, .int .i64 130] 3))) := Ready.alloc (Ready.later R3.out (Below.refl _ _).drew) _
  go_region_held3 (fun w' => w'.cell? ⟨w2.heap.size, 0, none⟩ = some (.slice s0 n0 c0) ∧ w'.cell? ⟨w2.heap.size, 1, none⟩ = some (.slice s1 n1 c1) ∧ w'.cell? ⟨w2.heap.size, 2, none⟩ = some (.int .i64 N)) (first | exact ⟨o6, o7, o8⟩ | exact ⟨o3, o4, o5⟩ | exact ⟨o0, o1, o2⟩ | go_keep)
    (first
      | (go_at_call 46; refine (intOfList A3.out w3.heap.size 7 [0, 1, 10, 63, 64, 65, 130] rfl (ints_new w3.drew _) (by have := R3.out.hc.lt; omega) (by omega) (by omega)).mono ?_; rintro e w4 ⟨x, rfl, hx, r4, b4⟩; have hx : 0 ≤ x ∧ x ≤ 1000 := (by simp at hx; omega); obtain ⟨X, rfl⟩ := Int.eq_ofNat_of_zero_le hx.1; have hX : X ≤ 1000 := (by omega); have R4 : Hid (Ready w0 a len cap l p w4) := r4; have O4 : Hid (Blk w4 w2.heap.size 27 [.slice s0 n0 c0, .slice s1 n1 c1, .int .i64 N]) := Blk.but (Blk.alloc (w := w3.drew) O3.out _) b4 NO.out; have K4 : Hid (Blk w4 w.heap.size 27 [.slice none 0 0, .slice none 0 0, .int .i64 0]) := Blk.but (Blk.alloc (w := w3.drew) K3.out _) b4 NP.out; have o3 := O4.out.cell 0 rfl; have o4 := O4.out.cell 1 rfl; have o5 := O4.out.cell 2 rfl; clear hx r4 b4)
      | (go_at_call 45; refine (bytesOf R4.out X hX).mono ?_; rintro e w5 ⟨g, c, r, rfl, hr1, hr2, hg, row, rdy, b5⟩; have R5 : Hid (Ready w0 a len cap l p w5) := rdy; have O5 : Hid (Blk w5 w2.heap.size 27 [.slice s0 n0 c0, .slice s1 n1 c1, .int .i64 N]) := Blk.but O4.out b5 NO.out; have K5 : Hid (Blk w5 w.heap.size 27 [.slice none 0 0, .slice none 0 0, .int .i64 0]) := Blk.but K4.out b5 NP.out; have GG : Hid (w4.heap.size ≤ g) := hg; have HE : Hid (X = r.length) := hr1; have HY : Hid (Bytes r) := hr2; have RW : Hid (Row w5 g c r) := row; have o6 := O5.out.cell 0 rfl; have o7 := O5.out.cell 1 rfl; have o8 := O5.out.cell 2 rfl; have k0 := K5.out.cell 0 rfl; have k1 := K5.out.cell 1 rfl; have k2 := K5.out.cell 2 rfl; have f0 := K5.out.frozen 0; have f1 := K5.out.frozen 1; have f2 := K5.out.frozen 2; have nk := NK.out; clear hr1 hr2 hg row rdy b5))
  obtain ⟨w6, hw6⟩ : ∃ w6, ((w5.setCell ⟨w.heap.size, 0, none⟩ (.slice s0 n0 c0)).setCell ⟨w.heap.size, 1, none⟩ (.slice s1 n1 c1)).setCell ⟨w.heap.size, 2, none⟩ (.int .i64 N) = w6 := ⟨_, rfl⟩
  have K6 : Hid (Blk w6 w.heap.size 27 [.slice s0 n0 c0, .slice s1 n1 c1, .int .i64 N]) := by rw [← hw6]; exact set3_new K5.out
  have GW : Hid (w.heap.size ≤ g) := Nat.le_of_lt (Nat.lt_of_lt_of_le K4.out.lt GG.out)
  have RW6 : Hid (Row w6 g c r) := by rw [← hw6]; exact RW.out.keep (set3_block (Nat.ne_of_gt (Nat.lt_of_lt_of_le K4.out.lt GG.out)))
  have B5 : Hid (Below w.heap.size w w5) := B0.out.trans (R5.out.hB.mono B0.out.size)
  have B6 : Hid (Below w.heap.size w w6) := by rw [← hw6]; exact set3_below B5.out (Nat.le_refl _)
  rw [hw6]
  clear hw6 o0 o1 o2 o3 o4 o5 o6 o7 o8 k0 k1 k2 f0 f1 f2 nk
  have y0 := K6.out.cell 0 rfl
  have y1 := K6.out.cell 1 rfl
  have y2 := K6.out.cell 2 rfl
  go_wp2
  refine bodyPost_ret (v := .tuple #[.agg #[.slice s0 n0 c0, .slice s1 n1 c1, .int .i64 N], .slice (some ⟨g, 0, none⟩) X c]) (by simp [results, Tryd.results12, go_sem, y0, y1, y2]) rfl ?_
  exact ⟨_, g, X, c, r, rfl, ⟨_, _, _, _, _, _, _, rfl⟩, HE.out, hX, HY.out, GW.out, RW6.out, B6.out⟩
end Go.Proofs.YtfoilfbpbjfkcaaDoor.DrawH
