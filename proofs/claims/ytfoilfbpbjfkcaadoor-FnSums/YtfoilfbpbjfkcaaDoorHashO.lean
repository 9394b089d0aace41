/-
  What impl's and spec's HashNew and HashOk and impl's sumOf answer, and the laws' measure of a hash.
-/
import Derived.Test.YtfoilfbpbjfkcaaDoorHashH
namespace Go.Proofs.YtfoilfbpbjfkcaaDoor.HashO
open Go.RowKit Go.Proofs.YtfoilfbpbjfkcaaDoor.Mem Go.Proofs.YtfoilfbpbjfkcaaDoor.MemI Go.Proofs.YtfoilfbpbjfkcaaDoor.Blk Go.Proofs.YtfoilfbpbjfkcaaDoor.App Go.Proofs.YtfoilfbpbjfkcaaDoor.ShaP Go.Proofs.YtfoilfbpbjfkcaaDoor.Sched Go.Proofs.YtfoilfbpbjfkcaaDoor.Words Go.Proofs.YtfoilfbpbjfkcaaDoor.WordsOf Go.Proofs.YtfoilfbpbjfkcaaDoor.Start Go.Proofs.YtfoilfbpbjfkcaaDoor.Hashs Go.Proofs.YtfoilfbpbjfkcaaDoor.HashH Go.Proofs.YtfoilfbpbjfkcaaDoor.Pads

theorem szSmall (a0 : Option Addr) (n0 c0 : Nat) (a1 : Option Addr) (n1 c1 : Nat) (N : Int) (w : World) (h : n0 + n1 ≤ 1048576) :
    Calls Tryd.prog 32 #[hashV a0 n0 c0 a1 n1 c1 N, .int .i64 1048576] w fun e w' => e = .returned (.int .i64 (1048576 - n0 - n1)) ∧ Below w.heap.size w w' := by
  have i1 : (0 : Int) ≤ 1048576 - (n0 : Int) := by omega
  have i2 : (0 : Int) ≤ 1048576 - (n0 : Int) - (n1 : Int) := by omega
  unfold hashV
  go_enter Tryd.func32, Tryd.ntmps32
  go_wp2
  go_ret
  exact ⟨rfl, (Below.refl _ _).alloc (Nat.le_refl _) _⟩
theorem szBig (a0 : Option Addr) (n0 c0 : Nat) (a1 : Option Addr) (n1 c1 : Nat) (N : Int) (w : World) (h : 1048576 < n0 + n1) (m0 : n0 ≤ maxLen) (m1 : n1 ≤ maxLen) :
    Calls Tryd.prog 32 #[hashV a0 n0 c0 a1 n1 c1 N, .int .i64 1048576] w fun e w' => e = .returned (.int .i64 (-1)) ∧ Below w.heap.size w w' := by
  unfold maxLen at m0 m1
  unfold hashV
  by_cases h0 : 1048576 < n0
  · have i1 : 1048576 - (n0 : Int) < 0 := by omega
    go_enter Tryd.func32, Tryd.ntmps32
    go_wp2
    go_ret
    exact ⟨rfl, (Below.refl _ _).alloc (Nat.le_refl _) _⟩
  · have i1 : (0 : Int) ≤ 1048576 - (n0 : Int) := by omega
    have i2 : 1048576 - (n0 : Int) - (n1 : Int) < 0 := by omega
    go_enter Tryd.func32, Tryd.ntmps32
    go_wp2
    go_ret
    exact ⟨rfl, (Below.refl _ _).alloc (Nat.le_refl _) _⟩

set_option maxRecDepth 100000 in
set_option maxHeartbeats 800000 in
theorem implHashNew (w : World) :
    Calls Tryd.prog 14 #[] w fun e w' =>
      ∃ gh ch gb cb, e = .returned (hashV (some ⟨gh, 0, none⟩) 8 ch (some ⟨gb, 0, none⟩) 0 cb 0) ∧ w.heap.size ≤ gh ∧ w.heap.size ≤ gb ∧ gh ≠ gb ∧ IRow w' gh ch start8 ∧ Row w' gb cb [] ∧ Below w.heap.size w w' := by
  obtain ⟨w0, hw0⟩ : ∃ w0, w.alloc (.cells #[.slice none 0 0, .slice none 0 0, .int .i64 0] 27) = w0 := ⟨_, rfl⟩
  have HW0 : Hid (w.alloc (.cells #[.slice none 0 0, .slice none 0 0, .int .i64 0] 27) = w0) := hw0
  have B0 : Hid (Below w.heap.size w w0) := by rw [← hw0]; exact (Below.refl _ _).alloc (Nat.le_refl _) _
  have K0 : Hid (Blk w0 w.heap.size 27 [.slice none 0 0, .slice none 0 0, .int .i64 0]) := by rw [← hw0]; exact Blk.new w 27 [.slice none 0 0, .slice none 0 0, .int .i64 0]
  clear hw0
  go_enter Tryd.func14, Tryd.ntmps14
  go_wp2_with fail
  rw [HW0.out]
  refine (newSum w0).mono ?_
  rintro e w1 ⟨rfl, k1, b1⟩
  have K1 : Hid (Blk w1 w0.heap.size 57 (sumCells start8 none 0 0 0)) := k1
  have B1 : Hid (Below w0.heap.size w0 w1) := b1
  clear k1 b1
  go_wp2_with fail
  refine (hashOf w0.heap.size start8 none 0 0 0 [] w1 K1.out rfl rfl (by intro i hi; cases hi) (fun _ => rfl) (by omega)).mono ?_
  rintro e w2 ⟨gh, ch, gb, cb, rfl, g1, g2, ne, rh, rb, b2⟩
  have K2 : Hid (Blk w2 w.heap.size 27 [.slice none 0 0, .slice none 0 0, .int .i64 0]) := (K0.out.later B1.out).later b2
  have B2 : Hid (Below w.heap.size w w2) := (B0.out.trans (B1.out.mono B0.out.size)).trans (b2.mono (Nat.le_trans B0.out.size B1.out.size))
  have S1 : Hid (w.heap.size < w1.heap.size) := (K0.out.later B1.out).lt
  have HL := laid3 (w := w) K2.out rh rb (by have := S1.out; omega) (by have := S1.out; omega) B2.out (Nat.le_refl _) (.slice (some ⟨gh, 0, none⟩) 8 ch) (.slice (some ⟨gb, 0, none⟩) 0 cb) (.int .i64 0)
  have HL : Hid _ := HL
  have HG1 : Hid (w.heap.size ≤ gh) := by have := S1.out; show _ ≤ _; omega
  have HG2 : Hid (w.heap.size ≤ gb) := by have := S1.out; show _ ≤ _; omega
  have NE : Hid (gh ≠ gb) := ne
  have x0 := K2.out.cell 0 rfl
  have x1 := K2.out.cell 1 rfl
  have x2 := K2.out.cell 2 rfl
  have f0 := K2.out.frozen 0
  have f1 := K2.out.frozen 1
  have f2 := K2.out.frozen 2
  clear g1 g2 rh rb b2 ne
  unfold hashV
  go_wp2
  exact bodyPost_ret (v := hashV (some ⟨gh, 0, none⟩) 8 ch (some ⟨gb, 0, none⟩) 0 cb 0) (results_cell_row rfl _ _ w.heap.size 27 _ (0, 0) _ rfl HL.out.1 Tryd.underlying27 rfl infoHash) rfl ⟨gh, ch, gb, cb, rfl, HG1.out, HG2.out, NE.out, HL.out.2.1, HL.out.2.2.1, HL.out.2.2.2⟩

theorem laidI {w wx : World} {r0 gh ch : Nat} {h : List Int} {z0 z1 z2 : Value} (hz : Blk wx r0 27 [z0, z1, z2]) (hH : IRow wx gh ch h) (n1 : gh ≠ r0) (hb : Below w.heap.size w wx) (hr : w.heap.size ≤ r0) (v0 v1 v2 : Value) :
    Blk (((wx.setCell ⟨r0, 0, none⟩ v0).setCell ⟨r0, 1, none⟩ v1).setCell ⟨r0, 2, none⟩ v2) r0 27 [v0, v1, v2] ∧ IRow (((wx.setCell ⟨r0, 0, none⟩ v0).setCell ⟨r0, 1, none⟩ v1).setCell ⟨r0, 2, none⟩ v2) gh ch h ∧ Below w.heap.size w (((wx.setCell ⟨r0, 0, none⟩ v0).setCell ⟨r0, 1, none⟩ v1).setCell ⟨r0, 2, none⟩ v2) := by
  have m3 : ∀ n, n = 3 → n ≤ maxLen := by rintro _ rfl; simp [maxLen]
  refine ⟨?_, ?_, ?_⟩
  · exact ((hz.set 0 v0 (m3 _ rfl)).set 1 v1 (m3 _ rfl)).set 2 v2 (m3 _ rfl)
  · exact ((hH.keep (Below.heap_setCell _ _ _ _ n1)).keep (Below.heap_setCell _ _ _ _ n1)).keep (Below.heap_setCell _ _ _ _ n1)
  · exact ((hb.setCell hr _).setCell hr _).setCell hr _

theorem specHashNew (w : World) :
    Calls Tryd.prog 74 #[] w fun e w' =>
      ∃ gh, e = .returned (hashV (some ⟨gh, 0, none⟩) 8 8 none 0 0 0) ∧ w.heap.size ≤ gh ∧ IRow w' gh 8 start8 ∧ Below w.heap.size w w' := by
  obtain ⟨w0, hw0⟩ : ∃ w0, w.alloc (.cells #[.slice none 0 0, .slice none 0 0, .int .i64 0] 27) = w0 := ⟨_, rfl⟩
  have HW0 : Hid (w.alloc (.cells #[.slice none 0 0, .slice none 0 0, .int .i64 0] 27) = w0) := hw0
  have B0 : Hid (Below w.heap.size w w0) := by rw [← hw0]; exact (Below.refl _ _).alloc (Nat.le_refl _) _
  have K0 : Hid (Blk w0 w.heap.size 27 [.slice none 0 0, .slice none 0 0, .int .i64 0]) := by rw [← hw0]; exact Blk.new w 27 [.slice none 0 0, .slice none 0 0, .int .i64 0]
  clear hw0
  go_enter Tryd.func74, Tryd.ntmps74
  go_wp2_with fail
  rw [HW0.out]
  refine (specStart w0).mono ?_
  rintro e w1 ⟨rfl, r1, b1⟩
  have K1 : Hid (Blk w1 w.heap.size 27 [.slice none 0 0, .slice none 0 0, .int .i64 0]) := K0.out.later b1
  have B1 : Hid (Below w.heap.size w w1) := B0.out.trans (b1.mono B0.out.size)
  have HL := laidI (w := w) K1.out r1 (Nat.ne_of_gt K0.out.lt) B1.out (Nat.le_refl _) (.slice (some ⟨w0.heap.size, 0, none⟩) 8 8) (.slice none 0 0) (.int .i64 0)
  have HL : Hid _ := HL
  have x0 := K1.out.cell 0 rfl
  have x1 := K1.out.cell 1 rfl
  have x2 := K1.out.cell 2 rfl
  have f0 := K1.out.frozen 0
  have f1 := K1.out.frozen 1
  have f2 := K1.out.frozen 2
  clear r1 b1
  go_wp2
  exact bodyPost_ret (v := hashV (some ⟨w0.heap.size, 0, none⟩) 8 8 none 0 0 0) (results_cell_row rfl _ _ w.heap.size 27 _ (0, 0) _ rfl HL.out.1 Tryd.underlying27 rfl infoHash) rfl ⟨w0.heap.size, rfl, B0.out.size, HL.out.2.1, HL.out.2.2⟩

/-- A hash in new memory: its words, what it holds, its number. -/
def NewHash (w : World) (h held : List Int) (N : Int) (e : Ending) (w' : World) : Prop :=
  ∃ gh m0 ch gb m1 cb, e = .returned (hashV (some ⟨gh, 0, none⟩) m0 ch (some ⟨gb, 0, none⟩) m1 cb N) ∧ m0 = h.length ∧ m1 = held.length ∧ w.heap.size ≤ gh ∧ w.heap.size ≤ gb ∧ gh ≠ gb ∧ IRow w' gh ch h ∧ Row w' gb cb held ∧ Below w.heap.size w w'
theorem implHashNewR (w : World) : Calls Tryd.prog 14 #[] w (NewHash w start8 [] 0) :=
  (implHashNew w).mono fun _ _ ⟨gh, ch, gb, cb, h1, h2, h3, h4, h5, h6, h7⟩ => ⟨gh, 8, ch, gb, 0, cb, h1, rfl, rfl, h2, h3, h4, h5, h6, h7⟩
end Go.Proofs.YtfoilfbpbjfkcaaDoor.HashO
