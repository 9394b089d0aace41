/-
  What impl's sumOf and impl's and spec's HashOk answer at every hash whose lists are of at most 2,097,152 each.
-/
import Derived.Test.YtfoilfbpbjfkcaaDoorHashO
namespace Go.Proofs.YtfoilfbpbjfkcaaDoor.HashS
open Go.RowKit Go.Proofs.YtfoilfbpbjfkcaaDoor.Mem Go.Proofs.YtfoilfbpbjfkcaaDoor.MemI Go.Proofs.YtfoilfbpbjfkcaaDoor.Blk Go.Proofs.YtfoilfbpbjfkcaaDoor.App Go.Proofs.YtfoilfbpbjfkcaaDoor.ShaP Go.Proofs.YtfoilfbpbjfkcaaDoor.Sched Go.Proofs.YtfoilfbpbjfkcaaDoor.Words Go.Proofs.YtfoilfbpbjfkcaaDoor.WordsOf Go.Proofs.YtfoilfbpbjfkcaaDoor.Start Go.Proofs.YtfoilfbpbjfkcaaDoor.Hashs Go.Proofs.YtfoilfbpbjfkcaaDoor.HashH Go.Proofs.YtfoilfbpbjfkcaaDoor.HashO Go.Proofs.YtfoilfbpbjfkcaaDoor.Pads

/-- Whether a hash is one. -/
def okH (h : List Int) (n1 : Nat) (N : Int) : Bool := okw h && isLen N && decide ((n1 : Int) = N % 64)
theorem okH_yes {h : List Int} {n1 : Nat} {N : Int} (h1 : okw h = true) (h2 : isLen N = true) (h3 : (n1 : Int) = N % 64) : okH h n1 N = true := by simp [okH, h1, h2, h3]
theorem okH_w {h : List Int} {n1 : Nat} {N : Int} (h1 : okw h = false) : okH h n1 N = false := by simp [okH, h1]
theorem okH_n {h : List Int} {n1 : Nat} {N : Int} (h2 : isLen N = false) : okH h n1 N = false := by simp [okH, h2]
theorem okH_r {h : List Int} {n1 : Nat} {N : Int} (h3 : ¬ (n1 : Int) = N % 64) : okH h n1 N = false := by simp [okH, h3]
theorem isLen_iff (N : Int) : isLen N = true ↔ 0 ≤ N ∧ N ≤ 1048576 := by simp [isLen]
theorem okH_parts {h : List Int} {n1 : Nat} {N : Int} (e : okH h n1 N = true) : okw h = true ∧ (0 ≤ N ∧ N ≤ 1048576) ∧ (n1 : Int) = N % 64 := by
  simp only [okH, Bool.and_eq_true, decide_eq_true_eq] at e
  exact ⟨e.1.1, (isLen_iff N).1 e.1.2, e.2⟩

set_option maxRecDepth 100000 in
set_option maxHeartbeats 2000000 in
theorem sumOf (a0 : Option Addr) (n0 c0 : Nat) (a1 : Option Addr) (n1 c1 : Nat) (N : Int) (h : List Int) (w : World) (e0 : n0 = h.length) (r0 : IRd w a0 h) (l0 : n0 ≤ 2097152) (_l1 : n1 ≤ 2097152) :
    Calls Tryd.prog 48 #[hashV a0 n0 c0 a1 n1 c1 N] w fun e w' =>
      ∃ p, e = .returned (.tuple #[.pointer p, .bool (okH h n1 N)]) ∧ (okH h n1 N = true → ∃ g, p = some ⟨g, 0, none⟩ ∧ w.heap.size ≤ g ∧ Blk w' g 57 (sumCells h a1 n1 c1 N)) ∧ (okH h n1 N = false → p = none) ∧ Below w.heap.size w w' := by
  have E0 : Hid (n0 = h.length) := e0
  obtain ⟨w0, hw0⟩ : ∃ w0, w.alloc (.cells #[.slice a0 n0 c0, .slice a1 n1 c1, .int .i64 N] 27) = w0 := ⟨_, rfl⟩
  have HW0 : Hid (w.alloc (.cells #[.slice a0 n0 c0, .slice a1 n1 c1, .int .i64 N] 27) = w0) := hw0
  have B0 : Hid (Below w.heap.size w w0) := by rw [← hw0]; exact (Below.refl _ _).alloc (Nat.le_refl _) _
  have K0 : Hid (Blk w0 w.heap.size 27 [.slice a0 n0 c0, .slice a1 n1 c1, .int .i64 N]) := by rw [← hw0]; exact Blk.new w 27 [.slice a0 n0 c0, .slice a1 n1 c1, .int .i64 N]
  have R0 : Hid (IRd w0 a0 h) := r0.later B0.out (Nat.le_refl _)
  clear e0 r0 hw0
  unfold hashV
  go_enter Tryd.func48, Tryd.ntmps48
  go_wp2_with fail
  rw [HW0.out]
  refine (wordsOf a0 n0 c0 h w0 E0.out R0.out (by omega)).mono ?_
  rintro e w1 ⟨G, rfl, hG, hG8, b1⟩
  have B1 : Hid (Below w.heap.size w w1) := B0.out.trans (b1.mono B0.out.size)
  have K1 : Hid (Blk w1 w.heap.size 27 [.slice a0 n0 c0, .slice a1 n1 c1, .int .i64 N]) := K0.out.later b1
  have HGG : Hid (okw h = true → G = h) := hG
  have HGL : Hid (w.heap.size < w1.heap.size) := K1.out.lt
  clear b1 hG
  obtain ⟨y0, y1, y2, y3, y4, y5, y6, y7, rfl⟩ : ∃ y0 y1 y2 y3 y4 y5 y6 y7, G = [y0, y1, y2, y3, y4, y5, y6, y7] := by
    match G, hG8 with
    | [y0, y1, y2, y3, y4, y5, y6, y7], _ => exact ⟨_, _, _, _, _, _, _, _, rfl⟩
  rw [← ints8]
  clear hG8
  obtain ⟨w2, hw2⟩ : ∃ w2, w1.alloc (.cells #[.int .i64 y0, .int .i64 y1, .int .i64 y2, .int .i64 y3, .int .i64 y4, .int .i64 y5, .int .i64 y6, .int .i64 y7] 55) = w2 := ⟨_, rfl⟩
  have HW2 : Hid (w1.alloc (.cells #[.int .i64 y0, .int .i64 y1, .int .i64 y2, .int .i64 y3, .int .i64 y4, .int .i64 y5, .int .i64 y6, .int .i64 y7] 55) = w2) := hw2
  have B2 : Hid (Below w.heap.size w w2) := by rw [← hw2]; exact B1.out.alloc B1.out.size _
  have K2 : Hid (Blk w2 w.heap.size 27 [.slice a0 n0 c0, .slice a1 n1 c1, .int .i64 N]) := by rw [← hw2]; exact K1.out.alloc _
  have Q2 : Hid (Blk w2 w1.heap.size 55 [.int .i64 y0, .int .i64 y1, .int .i64 y2, .int .i64 y3, .int .i64 y4, .int .i64 y5, .int .i64 y6, .int .i64 y7]) := by rw [← hw2]; exact Blk.new w1 55 _
  have kx := (K1.out.alloc (.cells #[.int .i64 y0, .int .i64 y1, .int .i64 y2, .int .i64 y3, .int .i64 y4, .int .i64 y5, .int .i64 y6, .int .i64 y7] 55))
  have x1 := kx.cell 1 rfl
  have x2 := kx.cell 2 rfl
  clear kx hw2
  cases hk : okw h with
  | false =>
    have HO : Hid (okH h n1 N = false) := okH_w hk
    clear hk
    go_wp2
    go_ret2
    exact ⟨none, by rw [HO.out]; rfl, (fun e => by rw [HO.out] at e; cases e), (fun _ => rfl), by rw [HW2.out]; exact B2.out⟩
  | true =>
    have HG : Hid ([y0, y1, y2, y3, y4, y5, y6, y7] = h) := HGG.out hk
    go_wp2_with fail
    refine (isShaLength N _).mono ?_
    rintro e _ ⟨rfl, rfl⟩
    cases hl : isLen N with
    | false =>
      have HO : Hid (okH h n1 N = false) := okH_n hl
      clear hl hk
      go_wp2
      go_ret2
      exact ⟨none, by rw [HO.out]; rfl, (fun e => by rw [HO.out] at e; cases e), (fun _ => rfl), by rw [HW2.out]; exact B2.out⟩
    | true =>
      obtain ⟨N0, N1⟩ := (isLen_iff N).1 hl
      obtain ⟨M, rfl⟩ := Int.eq_ofNat_of_zero_le N0
      by_cases hr : (n1 : Int) = (M : Int) % 64
      · have HO : Hid (okH h n1 (M : Int) = true) := okH_yes hk hl hr
        have hr1 : ((n1 : Int) != (M : Int) % 64) = false := by simp [hr]
        have B3 : Hid (Below w.heap.size w (w2.alloc (.cells #[.int .i64 y0, .int .i64 y1, .int .i64 y2, .int .i64 y3, .int .i64 y4, .int .i64 y5, .int .i64 y6, .int .i64 y7, .slice a1 n1 c1, .int .i64 M] 57))) := B2.out.alloc B2.out.size _
        have K3 : Hid (Blk (w2.alloc (.cells #[.int .i64 y0, .int .i64 y1, .int .i64 y2, .int .i64 y3, .int .i64 y4, .int .i64 y5, .int .i64 y6, .int .i64 y7, .slice a1 n1 c1, .int .i64 M] 57)) w2.heap.size 57 (sumCells h a1 n1 c1 M)) := by
          rw [← HG.out]; exact Blk.new w2 57 (sumCells [y0, y1, y2, y3, y4, y5, y6, y7] a1 n1 c1 M)
        have HS2 : Hid (w1.heap.size + 1 = w2.heap.size) := by rw [← HW2.out]; show _ = _; simp
        clear hk hl hr
        go_wp2
        rw [HW2.out, HS2.out]
        go_ret2
        exact ⟨some ⟨w2.heap.size, 0, none⟩, by rw [HO.out]; rfl, (fun _ => ⟨w2.heap.size, rfl, B2.out.size, K3.out⟩), (fun e => by rw [HO.out] at e; cases e), B3.out⟩
      · have HO : Hid (okH h n1 (M : Int) = false) := okH_r hr
        have hr1 : ((n1 : Int) != (M : Int) % 64) = true := by simpa using hr
        clear hk hl hr
        go_wp2
        go_ret2
        exact ⟨none, by rw [HO.out]; rfl, (fun e => by rw [HO.out] at e; cases e), (fun _ => rfl), by rw [HW2.out]; exact B2.out⟩

theorem implHashOk (a0 : Option Addr) (n0 c0 : Nat) (a1 : Option Addr) (n1 c1 : Nat) (N : Int) (h : List Int) (w : World) (e0 : n0 = h.length) (r0 : IRd w a0 h) (l0 : n0 ≤ 2097152) (l1 : n1 ≤ 2097152) :
    Calls Tryd.prog 18 #[hashV a0 n0 c0 a1 n1 c1 N] w fun e w' => e = .returned (.bool (okH h n1 N)) ∧ Below w.heap.size w w' := by
  have E0 : Hid (n0 = h.length) := e0
  have R0 : Hid (IRd w a0 h) := r0
  have A0 : Hid (Below w.heap.size w (w.alloc (.cells #[.slice a0 n0 c0, .slice a1 n1 c1, .int .i64 N] 27))) := (Below.refl _ _).alloc (Nat.le_refl _) _
  clear e0 r0
  unfold hashV
  go_enter Tryd.func18, Tryd.ntmps18
  go_wp2_with fail
  refine (sumOf a0 n0 c0 a1 n1 c1 N h _ E0.out (R0.out.later A0.out (Nat.le_refl _)) l0 l1).mono ?_
  rintro e w1 ⟨p, rfl, _, _, b1⟩
  have B1 : Hid (Below w.heap.size w w1) := A0.out.trans (b1.mono A0.out.size)
  clear b1
  go_wp2
  go_ret
  exact ⟨rfl, B1.out⟩

set_option maxRecDepth 100000 in
set_option maxHeartbeats 1000000 in
theorem specHashOk (a0 : Option Addr) (n0 c0 : Nat) (a1 : Option Addr) (n1 c1 : Nat) (N : Int) (h : List Int) (w : World) (e0 : n0 = h.length) (r0 : IRd w a0 h) (l0 : n0 ≤ 2097152) (l1 : n1 ≤ 2097152) :
    Calls Tryd.prog 68 #[hashV a0 n0 c0 a1 n1 c1 N] w fun e w' => e = .returned (.bool (okH h n1 N)) ∧ Below w.heap.size w w' := by
  have E0 : Hid (n0 = h.length) := e0
  have R0 : Hid (IRd w a0 h) := r0
  have A0 : Hid (Below w.heap.size w (w.alloc (.cells #[.slice a0 n0 c0, .slice a1 n1 c1, .int .i64 N] 27))) := (Below.refl _ _).alloc (Nat.le_refl _) _
  clear e0 r0
  unfold hashV
  go_enter Tryd.func68, Tryd.ntmps68
  go_wp2_with fail
  refine (l2Words a0 n0 c0 h _ E0.out (R0.out.later A0.out (Nat.le_refl _)) (by omega)).mono ?_
  rintro e _ ⟨rfl, rfl⟩
  cases hk : okw h with
  | false =>
    have HO : Hid (okH h n1 N = false) := okH_w hk
    clear hk
    go_wp2
    go_ret
    exact ⟨by simp [HO.out], A0.out⟩
  | true =>
    by_cases h64 : n1 < 64
    · go_wp2_with fail
      refine (l1In N 0 1048576 _).mono ?_
      rintro e _ ⟨rfl, rfl⟩
      by_cases hN : 0 ≤ N ∧ N ≤ 1048576
      · have hin : isIn N 0 1048576 = true := isIn_yes hN
        obtain ⟨N0, N1⟩ := hN
        obtain ⟨M, rfl⟩ := Int.eq_ofNat_of_zero_le N0
        by_cases hr : (n1 : Int) = (M : Int) % 64
        · have HO : Hid (okH h n1 (M : Int) = true) := okH_yes hk (isLen_yes ⟨N0, N1⟩) hr
          have hr1 : ((M : Int) % 64 == (n1 : Int)) = true := by simp [hr]
          clear hk hr
          go_wp2
          go_ret
          exact ⟨by simp [HO.out], A0.out⟩
        · have HO : Hid (okH h n1 (M : Int) = false) := okH_r hr
          have hr1 : ((M : Int) % 64 == (n1 : Int)) = false := by simpa using (fun e => hr e.symm)
          clear hk hr
          go_wp2
          go_ret
          exact ⟨by simp [HO.out], A0.out⟩
      · have hin : isIn N 0 1048576 = false := isIn_no hN
        have HO : Hid (okH h n1 N = false) := okH_n (isLen_no hN)
        clear hk hN
        go_wp2
        go_ret
        exact ⟨by simp [HO.out], A0.out⟩
    · have HO : Hid (okH h n1 N = false) := okH_r (by omega)
      have h64' : ¬ ((n1 : Int) < 64) := by omega
      clear hk
      go_wp2
      go_ret
      exact ⟨by simp [HO.out], A0.out⟩
end Go.Proofs.YtfoilfbpbjfkcaaDoor.HashS
