/-
  What the laws' own helpers on hashes do: compare, mark, look for marks, copy, measure.
-/
import Derived.Test.YtfoilfbpbjfkcaaDoorHashs
namespace Go.Proofs.YtfoilfbpbjfkcaaDoor.HashH
open Go.RowKit Go.Proofs.YtfoilfbpbjfkcaaDoor.Mem Go.Proofs.YtfoilfbpbjfkcaaDoor.MemI Go.Proofs.YtfoilfbpbjfkcaaDoor.Blk Go.Proofs.YtfoilfbpbjfkcaaDoor.App Go.Proofs.YtfoilfbpbjfkcaaDoor.ShaP Go.Proofs.YtfoilfbpbjfkcaaDoor.Sched Go.Proofs.YtfoilfbpbjfkcaaDoor.WordsOf Go.Proofs.YtfoilfbpbjfkcaaDoor.Start Go.Proofs.YtfoilfbpbjfkcaaDoor.Hashs

theorem alloc_size (w : World) (o : Obj) : (w.alloc o).heap.size = w.heap.size + 1 := by simp

set_option maxRecDepth 100000 in
set_option maxHeartbeats 800000 in
theorem eqHash (a0 : Option Addr) (n0 c0 : Nat) (a1 : Option Addr) (n1 c1 : Nat) (b0 : Option Addr) (m0 d0 : Nat) (b1 : Option Addr) (m1 d1 : Nat) (N : Int) (h held : List Int) (w : World)
    (e0 : n0 = h.length) (e1 : n1 = held.length) (f0 : m0 = h.length) (f1 : m1 = held.length) (r0 : IRd w a0 h) (r1 : Rd w a1 held) (s0 : IRd w b0 h) (s1 : Rd w b1 held) (l0 : h.length ≤ 4194304) (l1 : held.length ≤ 4194304) :
    Calls Tryd.prog 36 #[hashV a0 n0 c0 a1 n1 c1 N, hashV b0 m0 d0 b1 m1 d1 N] w fun e w' => e = .returned (.bool true) ∧ Below w.heap.size w w' := by
  have E0 : Hid (n0 = h.length) := e0
  have E1 : Hid (n1 = held.length) := e1
  have F0 : Hid (m0 = h.length) := f0
  have F1 : Hid (m1 = held.length) := f1
  have R0 : Hid (IRd w a0 h) := r0
  have R1 : Hid (Rd w a1 held) := r1
  have S0 : Hid (IRd w b0 h) := s0
  have S1 : Hid (Rd w b1 held) := s1
  obtain ⟨w0, hw0⟩ : ∃ w0, (w.alloc (.cells #[.slice a0 n0 c0, .slice a1 n1 c1, .int .i64 N] 27)).alloc (.cells #[.slice b0 m0 d0, .slice b1 m1 d1, .int .i64 N] 27) = w0 := ⟨_, rfl⟩
  have HW0 : Hid ((w.alloc (.cells #[.slice a0 n0 c0, .slice a1 n1 c1, .int .i64 N] 27)).alloc (.cells #[.slice b0 m0 d0, .slice b1 m1 d1, .int .i64 N] 27) = w0) := hw0
  have B0 : Hid (Below w.heap.size w w0) := by rw [← hw0]; exact ((Below.refl _ _).alloc (Nat.le_refl _) _).alloc (by simp) _
  have K0 : Hid (Blk w0 w.heap.size 27 [.slice a0 n0 c0, .slice a1 n1 c1, .int .i64 N]) := by rw [← hw0]; exact (Blk.new w 27 [.slice a0 n0 c0, .slice a1 n1 c1, .int .i64 N]).alloc _
  have K1 : Hid (Blk w0 (w.heap.size + 1) 27 [.slice b0 m0 d0, .slice b1 m1 d1, .int .i64 N]) := by
    rw [← hw0]
    have := Blk.new (w.alloc (.cells #[.slice a0 n0 c0, .slice a1 n1 c1, .int .i64 N] 27)) 27 [.slice b0 m0 d0, .slice b1 m1 d1, .int .i64 N]
    rw [alloc_size] at this
    exact this
  clear e0 e1 f0 f1 r0 r1 s0 s1 hw0
  unfold hashV
  go_enter Tryd.func36, Tryd.ntmps36
  go_wp2_with fail
  rw [HW0.out]
  refine (eqIntS _ _ n0 c0 m0 d0 h h w0 E0.out F0.out (R0.out.later B0.out (Nat.le_refl _)) (S0.out.later B0.out (Nat.le_refl _)) l0 l0).mono ?_
  rintro e _ ⟨rfl, q1, rfl⟩
  have x1 := K0.out.cell 1 rfl
  have x2 := K1.out.cell 1 rfl
  have y1 := K0.out.cell 2 rfl
  have y2 := K1.out.cell 2 rfl
  go_wp2_with fail
  refine (eqByteS _ _ n1 c1 m1 d1 held held (w0.drewN q1) E1.out F1.out (Rd.drewN (R1.out.later B0.out (Nat.le_refl _)) q1) (Rd.drewN (S1.out.later B0.out (Nat.le_refl _)) q1) l1 l1).mono ?_
  rintro e _ ⟨rfl, q2, rfl⟩
  have hN : (N != N) = false := by simp
  go_wp2
  go_ret
  exact ⟨rfl, below_drewN B0.out _⟩

/-- But for two blocks the world is as it was. -/
def Two (g1 g2 : Nat) (w w' : World) : Prop := w'.os = w.os ∧ w'.tape = w.tape ∧ w'.output = w.output ∧ w.heap.size ≤ w'.heap.size ∧ ∀ k, k < w.heap.size → k ≠ g1 → k ≠ g2 → w'.heap[k]? = w.heap[k]?
theorem Two.below {g1 g2 : Nat} {W w w' : World} (h : Two g1 g2 w w') (b : Below W.heap.size W w) (h1 : W.heap.size ≤ g1) (h2 : W.heap.size ≤ g2) : Below W.heap.size W w' :=
  ⟨h.1.trans b.os, h.2.1.trans b.tape, h.2.2.1.trans b.output, Nat.le_trans b.size h.2.2.2.1, fun k hk => (h.2.2.2.2 k (Nat.lt_of_lt_of_le hk b.size) (by omega) (by omega)).trans (b.block k hk)⟩

set_option maxRecDepth 100000 in
set_option maxHeartbeats 800000 in
theorem markHash (gh n0 c0 gb n1 c1 : Nat) (N : Int) (h held : List Int) (q : Int) (w : World) (e0 : n0 = h.length) (e1 : n1 = held.length) (r0 : IRow w gh c0 h) (r1 : Row w gb c1 held) (ne : gh ≠ gb) (l0 : h.length ≤ 2097152) (l1 : held.length ≤ 2097152) (q0 : 0 ≤ q) (q1 : q ≤ 2097152) :
    Calls Tryd.prog 38 #[hashV (some ⟨gh, 0, none⟩) n0 c0 (some ⟨gb, 0, none⟩) n1 c1 N, .int .i64 q] w fun e w' =>
      e = .returned (.int .i64 (q + n0 + n1)) ∧ IRow w' gh c0 (imarks q n0) ∧ Row w' gb c1 (marks (q + n0) n1) ∧ Two gh gb w w' := by
  have E0 : Hid (n0 = h.length) := e0
  have E1 : Hid (n1 = held.length) := e1
  have NE : Hid (gh ≠ gb) := ne
  obtain ⟨w0, hw0⟩ : ∃ w0, w.alloc (.cells #[.slice (some ⟨gh, 0, none⟩) n0 c0, .slice (some ⟨gb, 0, none⟩) n1 c1, .int .i64 N] 27) = w0 := ⟨_, rfl⟩
  have HW0 : Hid (w.alloc (.cells #[.slice (some ⟨gh, 0, none⟩) n0 c0, .slice (some ⟨gb, 0, none⟩) n1 c1, .int .i64 N] 27) = w0) := hw0
  have B0 : Hid (Below w.heap.size w w0) := by rw [← hw0]; exact (Below.refl _ _).alloc (Nat.le_refl _) _
  have K0 : Hid (Blk w0 w.heap.size 27 [.slice (some ⟨gh, 0, none⟩) n0 c0, .slice (some ⟨gb, 0, none⟩) n1 c1, .int .i64 N]) := by rw [← hw0]; exact Blk.new w 27 [.slice (some ⟨gh, 0, none⟩) n0 c0, .slice (some ⟨gb, 0, none⟩) n1 c1, .int .i64 N]
  have HG : Hid (w.heap.size ≠ gh) := Nat.ne_of_gt r0.lt
  have R0 : Hid (IRow w0 gh c0 h) := r0.later B0.out
  have R1 : Hid (Row w0 gb c1 held) := r1.later B0.out
  have LB : Hid (n1 ≤ 2097152) := by show _ ≤ _; omega
  have L0 : Hid (n0 ≤ 2097152) := by show _ ≤ _; omega
  clear e0 e1 r0 r1 ne hw0
  unfold hashV
  go_enter Tryd.func38, Tryd.ntmps38
  go_wp2_with fail
  rw [HW0.out]
  refine (markIntS gh n0 c0 h q w0 E0.out R0.out (by omega) q0 (by omega)).mono ?_
  rintro e w1 ⟨rfl, r1, g1⟩
  have R2 : Hid (IRow w1 gh c0 (imarks q n0)) := r1
  have R3 : Hid (Row w1 gb c1 held) := R1.out.keep (g1.block gb R1.out.lt (by simp only [ne_eq, Option.some.injEq]; exact Ne.symm NE.out))
  have K1 : Blk w1 w.heap.size 27 [.slice (some ⟨gh, 0, none⟩) n0 c0, .slice (some ⟨gb, 0, none⟩) n1 c1, .int .i64 N] := K0.out.keep (g1.block _ K0.out.lt (by simp only [ne_eq, Option.some.injEq]; exact HG.out))
  have x1 := K1.cell 1 rfl
  have G1 : Hid (w0.grownBy w1 (some gh)) := g1
  clear r1 g1 K1
  have l00 := L0.out
  go_wp2_with fail
  refine (markByteS gb n1 c1 held (q + n0) w1 E1.out R3.out (by omega) (by omega) (by omega)).mono ?_
  rintro e w2 ⟨rfl, r2, g2⟩
  have l11 := LB.out
  have R4 : Hid (Row w2 gb c1 (marks (q + n0) n1)) := r2
  have R5 : Hid (IRow w2 gh c0 (imarks q n0)) := R2.out.keep (g2.block gh R2.out.lt (by simp only [ne_eq, Option.some.injEq]; exact NE.out))
  have T2 : Hid (Two gh gb w w2) := by
    refine ⟨g2.os.trans (G1.out.os.trans B0.out.os), g2.tape.trans (G1.out.tape.trans B0.out.tape), g2.output.trans (G1.out.output.trans B0.out.output), Nat.le_trans B0.out.size (Nat.le_trans G1.out.size g2.size), fun k hk k1 k2 => ?_⟩
    have h1 := Nat.lt_of_lt_of_le hk B0.out.size
    rw [g2.block k (Nat.lt_of_lt_of_le h1 G1.out.size) (by simp only [ne_eq, Option.some.injEq]; exact k2), G1.out.block k h1 (by simp only [ne_eq, Option.some.injEq]; exact k1), B0.out.block k hk]
  clear r2 g2
  go_wp2
  go_ret
  exact ⟨rfl, R5.out, R4.out, T2.out⟩

set_option maxRecDepth 100000 in
set_option maxHeartbeats 800000 in
theorem heldHash (a0 : Option Addr) (n0 c0 : Nat) (a1 : Option Addr) (n1 c1 : Nat) (N : Int) (q : Int) (w : World) (r0 : IRd w a0 (imarks q n0)) (r1 : Rd w a1 (marks (q + n0) n1)) (l0 : n0 ≤ 2097152) (l1 : n1 ≤ 2097152) (q0 : 0 ≤ q) (q1 : q ≤ 2097152) :
    Calls Tryd.prog 40 #[hashV a0 n0 c0 a1 n1 c1 N, .int .i64 q] w fun e w' => e = .returned (.int .i64 (q + n0 + n1)) ∧ Below w.heap.size w w' := by
  obtain ⟨w0, hw0⟩ : ∃ w0, w.alloc (.cells #[.slice a0 n0 c0, .slice a1 n1 c1, .int .i64 N] 27) = w0 := ⟨_, rfl⟩
  have HW0 : Hid (w.alloc (.cells #[.slice a0 n0 c0, .slice a1 n1 c1, .int .i64 N] 27) = w0) := hw0
  have B0 : Hid (Below w.heap.size w w0) := by rw [← hw0]; exact (Below.refl _ _).alloc (Nat.le_refl _) _
  have K0 : Hid (Blk w0 w.heap.size 27 [.slice a0 n0 c0, .slice a1 n1 c1, .int .i64 N]) := by rw [← hw0]; exact Blk.new w 27 [.slice a0 n0 c0, .slice a1 n1 c1, .int .i64 N]
  have R0 : Hid (IRd w0 a0 (imarks q n0)) := r0.later B0.out (Nat.le_refl _)
  have R1 : Hid (Rd w0 a1 (marks (q + n0) n1)) := r1.later B0.out (Nat.le_refl _)
  clear r0 r1 hw0
  unfold hashV
  go_enter Tryd.func40, Tryd.ntmps40
  go_wp2_with fail
  rw [HW0.out]
  refine (heldIntS a0 c0 n0 q w0 R0.out (by omega) q0 (by omega)).mono ?_
  rintro e _ ⟨rfl, rfl⟩
  have x1 := K0.out.cell 1 rfl
  go_wp2_with fail
  refine (heldByteS a1 c1 n1 (q + n0) w0 R1.out (by omega) (by omega) (by omega)).mono ?_
  rintro e _ ⟨rfl, rfl⟩
  go_wp2
  go_ret
  exact ⟨rfl, B0.out⟩

set_option maxRecDepth 100000 in
set_option maxHeartbeats 800000 in
theorem toHash (a0 : Option Addr) (n0 c0 : Nat) (a1 : Option Addr) (n1 c1 : Nat) (N : Int) (h held : List Int) (w : World) (e0 : n0 = h.length) (e1 : n1 = held.length) (r0 : IRd w a0 h) (r1 : Rd w a1 held) (l0 : n0 ≤ 4194304) (l1 : n1 ≤ 4194304) :
    Calls Tryd.prog 34 #[hashV a0 n0 c0 a1 n1 c1 N] w fun e w' =>
      ∃ gh gb, e = .returned (hashV (some ⟨gh, 0, none⟩) n0 n0 (some ⟨gb, 0, none⟩) n1 n1 N) ∧ w.heap.size ≤ gh ∧ w.heap.size ≤ gb ∧ gh ≠ gb ∧ IRow w' gh n0 h ∧ Row w' gb n1 held ∧ Below w.heap.size w w' := by
  have E0 : Hid (n0 = h.length) := e0
  have E1 : Hid (n1 = held.length) := e1
  obtain ⟨w0, hw0⟩ : ∃ w0, ((w.alloc (.cells #[.slice a0 n0 c0, .slice a1 n1 c1, .int .i64 N] 39)).alloc (.cells #[.slice none 0 0, .slice none 0 0, .int .i64 0] 27)).alloc (.cells #[.slice none 0 0, .slice none 0 0, .int .i64 0] 27) = w0 := ⟨_, rfl⟩
  have HW0 : Hid (((w.alloc (.cells #[.slice a0 n0 c0, .slice a1 n1 c1, .int .i64 N] 39)).alloc (.cells #[.slice none 0 0, .slice none 0 0, .int .i64 0] 27)).alloc (.cells #[.slice none 0 0, .slice none 0 0, .int .i64 0] 27) = w0) := hw0
  have hsz : w0.heap.size = w.heap.size + 1 + 1 + 1 := by rw [← hw0]; simp
  have HSZ : Hid (w0.heap.size = w.heap.size + 1 + 1 + 1) := hsz
  have B0 : Hid (Below w.heap.size w w0) := by rw [← hw0]; exact (((Below.refl _ _).alloc (Nat.le_refl _) _).alloc (by simp) _).alloc (by simp; omega) _
  have K0 : Hid (Blk w0 w.heap.size 39 [.slice a0 n0 c0, .slice a1 n1 c1, .int .i64 N]) := by rw [← hw0]; exact ((Blk.new w 39 [.slice a0 n0 c0, .slice a1 n1 c1, .int .i64 N]).alloc _).alloc _
  have K1 : Hid (Blk w0 (w.heap.size + 1) 27 [.slice none 0 0, .slice none 0 0, .int .i64 0]) := by
    rw [← hw0]
    have := (Blk.new (w.alloc (.cells #[.slice a0 n0 c0, .slice a1 n1 c1, .int .i64 N] 39)) 27 [.slice none 0 0, .slice none 0 0, .int .i64 0]).alloc (.cells #[.slice none 0 0, .slice none 0 0, .int .i64 0] 27)
    rw [alloc_size] at this
    exact this
  have K2 : Hid (Blk w0 (w.heap.size + 1 + 1) 27 [.slice none 0 0, .slice none 0 0, .int .i64 0]) := by
    rw [← hw0]
    have := Blk.new ((w.alloc (.cells #[.slice a0 n0 c0, .slice a1 n1 c1, .int .i64 N] 39)).alloc (.cells #[.slice none 0 0, .slice none 0 0, .int .i64 0] 27)) 27 [.slice none 0 0, .slice none 0 0, .int .i64 0]
    rw [alloc_size, alloc_size] at this
    exact this
  have R0 : Hid (IRd w0 a0 h) := r0.later B0.out (Nat.le_refl _)
  have RR : Hid (Rd w a1 held) := r1
  clear e0 e1 r0 r1 hw0 hsz
  have m3 : Hid (∀ l : List Value, l.length = 3 → l.length ≤ maxLen) := by intro l e; rw [e]; simp [maxLen]
  unfold hashV
  go_enter Tryd.func34, Tryd.ntmps34
  go_wp2_with fail
  rw [HW0.out]
  refine (toIntS a0 n0 c0 h w0 E0.out R0.out (by rw [← E0.out]; exact l0)).mono ?_
  rintro e w1 ⟨rfl, r1, b1⟩
  have RH : Hid (IRow w1 w0.heap.size n0 h) := r1
  have B1 : Hid (Below w0.heap.size w0 w1) := b1
  have K01 : Hid (Blk w1 w.heap.size 39 [.slice a0 n0 c0, .slice a1 n1 c1, .int .i64 N]) := K0.out.later b1
  have K11 : Hid (Blk w1 (w.heap.size + 1) 27 [.slice none 0 0, .slice none 0 0, .int .i64 0]) := K1.out.later b1
  have K21 : Hid (Blk w1 (w.heap.size + 1 + 1) 27 [.slice none 0 0, .slice none 0 0, .int .i64 0]) := K2.out.later b1
  clear r1 b1 K0 K1 K2 R0
  obtain ⟨w2, hw2⟩ : ∃ w2, w1.setCell ⟨w.heap.size + 1 + 1, 0, none⟩ (.slice (some ⟨w0.heap.size, 0, none⟩) n0 n0) = w2 := ⟨_, rfl⟩
  have HW2 : Hid (w1.setCell ⟨w.heap.size + 1 + 1, 0, none⟩ (.slice (some ⟨w0.heap.size, 0, none⟩) n0 n0) = w2) := hw2
  have K02 : Hid (Blk w2 w.heap.size 39 [.slice a0 n0 c0, .slice a1 n1 c1, .int .i64 N]) := by rw [← hw2]; exact K01.out.other (by simp; omega) _
  have K12 : Hid (Blk w2 (w.heap.size + 1) 27 [.slice none 0 0, .slice none 0 0, .int .i64 0]) := by rw [← hw2]; exact K11.out.other (by simp) _
  have K22 : Hid (Blk w2 (w.heap.size + 1 + 1) 27 [.slice (some ⟨w0.heap.size, 0, none⟩) n0 n0, .slice none 0 0, .int .i64 0]) := by rw [← hw2]; exact K21.out.set 0 _ (m3.out _ rfl)
  have RH2 : Hid (IRow w2 w0.heap.size n0 h) := by rw [← hw2]; exact RH.out.keep (Below.heap_setCell _ _ _ _ (by have := HSZ.out; simp; omega))
  have B2 : Hid (Below w.heap.size w w2) := by rw [← hw2]; exact (B0.out.trans (B1.out.mono B0.out.size)).setCell (by simp; omega) _
  have S2 : Hid (w1.heap.size = w2.heap.size) := by rw [← hw2]; simp [World.setCell, Hid]
  have R12 : Hid (Rd w2 a1 held) := RR.out.later B2.out (Nat.le_refl _)
  have x0 := K21.out.cell 0 rfl
  have fx := K21.out.frozen 0
  have x1 := K01.out.cell 1 rfl
  clear hw2
  go_wp2_with fail
  rw [HW2.out]
  clear x0 fx x1
  refine (toByteS a1 n1 c1 held w2 E1.out R12.out (by rw [← E1.out]; exact l1)).mono ?_
  rintro e w3 ⟨rfl, r3, b3⟩
  have RB3 : Hid (Row w3 w2.heap.size n1 held) := r3
  have RH3 : Hid (IRow w3 w0.heap.size n0 h) := RH2.out.later b3
  have HNE : Hid (w0.heap.size ≠ w2.heap.size) := Nat.ne_of_lt RH2.out.lt
  have B3 : Hid (Below w.heap.size w w3) := B2.out.trans (b3.mono B2.out.size)
  have K03 : Hid (Blk w3 w.heap.size 39 [.slice a0 n0 c0, .slice a1 n1 c1, .int .i64 N]) := K02.out.later b3
  have K13 : Hid (Blk w3 (w.heap.size + 1) 27 [.slice none 0 0, .slice none 0 0, .int .i64 0]) := K12.out.later b3
  have K23 : Hid (Blk w3 (w.heap.size + 1 + 1) 27 [.slice (some ⟨w0.heap.size, 0, none⟩) n0 n0, .slice none 0 0, .int .i64 0]) := K22.out.later b3
  have HB : Hid (w.heap.size + 1 + 1 < w2.heap.size) := K22.out.lt
  clear r3 b3 K02 K12 K22 RH2 K01 K11 K21 RH
  obtain ⟨w4, hw4⟩ : ∃ w4, (w3.setCell ⟨w.heap.size + 1 + 1, 1, none⟩ (.slice (some ⟨w2.heap.size, 0, none⟩) n1 n1)).setCell ⟨w.heap.size + 1 + 1, 2, none⟩ (.int .i64 N) = w4 := ⟨_, rfl⟩
  have HW4 : Hid ((w3.setCell ⟨w.heap.size + 1 + 1, 1, none⟩ (.slice (some ⟨w2.heap.size, 0, none⟩) n1 n1)).setCell ⟨w.heap.size + 1 + 1, 2, none⟩ (.int .i64 N) = w4) := hw4
  have K24 : Hid (Blk w4 (w.heap.size + 1 + 1) 27 [.slice (some ⟨w0.heap.size, 0, none⟩) n0 n0, .slice (some ⟨w2.heap.size, 0, none⟩) n1 n1, .int .i64 N]) := by
    rw [← hw4]; exact (K23.out.set 1 _ (m3.out _ rfl)).set 2 _ (m3.out _ rfl)
  have K14 : Hid (Blk w4 (w.heap.size + 1) 27 [.slice none 0 0, .slice none 0 0, .int .i64 0]) := by rw [← hw4]; exact (K13.out.other (by simp) _).other (by simp) _
  have RH4 : Hid (IRow w4 w0.heap.size n0 h) := by
    have hs := HSZ.out
    rw [← hw4]; exact (RH3.out.keep (Below.heap_setCell _ _ _ _ (by simp; omega))).keep (Below.heap_setCell _ _ _ _ (by simp; omega))
  have RB4 : Hid (Row w4 w2.heap.size n1 held) := by
    have hs := HB.out
    rw [← hw4]; exact (RB3.out.keep (Below.heap_setCell _ _ _ _ (by simp; omega))).keep (Below.heap_setCell _ _ _ _ (by simp; omega))
  have B4 : Hid (Below w.heap.size w w4) := by rw [← hw4]; exact (B3.out.setCell (by simp; omega) _).setCell (by simp; omega) _
  have L5 := laid3 (w := w) K14.out RH4.out RB4.out (by have := HSZ.out; omega) (by have := HB.out; omega) B4.out (by omega) (.slice (some ⟨w0.heap.size, 0, none⟩) n0 n0) (.slice (some ⟨w2.heap.size, 0, none⟩) n1 n1) (.int .i64 N)
  rw [← hw4] at L5
  have HL5 : Hid _ := L5
  clear L5 hw4
  have x1 := K23.out.cell 1 rfl
  have x2 := K23.out.cell 2 rfl
  have x3 := K23.out.cell 0 rfl
  have f1 := K23.out.frozen 1
  have f2 := K23.out.frozen 2
  have x4 := K03.out.cell 2 rfl
  have y0 := K13.out.cell 0 rfl
  have y1 := K13.out.cell 1 rfl
  have y2 := K13.out.cell 2 rfl
  have g0 := K13.out.frozen 0
  have g1 := K13.out.frozen 1
  have g2 := K13.out.frozen 2
  go_wp2
  refine bodyPost_ret (v := hashV (some ⟨w0.heap.size, 0, none⟩) n0 n0 (some ⟨w2.heap.size, 0, none⟩) n1 n1 N) (results_cell_row rfl _ _ (w.heap.size + 1) 27 _ (0, 0) _ rfl HL5.out.1 Tryd.underlying27 rfl infoHash) rfl ⟨w0.heap.size, w2.heap.size, rfl, B0.out.size, B2.out.size, HNE.out, HL5.out.2.1, HL5.out.2.2.1, HL5.out.2.2.2⟩
end Go.Proofs.YtfoilfbpbjfkcaaDoor.HashH
