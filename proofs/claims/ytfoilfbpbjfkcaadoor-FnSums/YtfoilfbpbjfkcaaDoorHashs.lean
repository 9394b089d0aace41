/-
  What impl's hash of a sum, impl's and spec's HashNew and impl's sumOf answer: a hash whose lists lie in new memory, apart from each other.
-/
import Derived.Test.YtfoilfbpbjfkcaaDoorStart
import Derived.Deep.RegionWith
namespace Go.Proofs.YtfoilfbpbjfkcaaDoor.Hashs
open Go.RowKit Go.Proofs.YtfoilfbpbjfkcaaDoor.Mem Go.Proofs.YtfoilfbpbjfkcaaDoor.MemI Go.Proofs.YtfoilfbpbjfkcaaDoor.Blk Go.Proofs.YtfoilfbpbjfkcaaDoor.App Go.Proofs.YtfoilfbpbjfkcaaDoor.Get Go.Proofs.YtfoilfbpbjfkcaaDoor.ShaP Go.Proofs.YtfoilfbpbjfkcaaDoor.Word Go.Proofs.YtfoilfbpbjfkcaaDoor.Bits Go.Proofs.YtfoilfbpbjfkcaaDoor.Sched Go.Proofs.YtfoilfbpbjfkcaaDoor.Words Go.Proofs.YtfoilfbpbjfkcaaDoor.WordsOf Go.Proofs.YtfoilfbpbjfkcaaDoor.Start Go.Proofs.YtfoilfbpbjfkcaaDoor.Pads

/-- A hash as a value: its words, what it holds, its number. -/
def hashV (a0 : Option Addr) (n0 c0 : Nat) (a1 : Option Addr) (n1 c1 : Nat) (N : Int) : Value := .agg #[.slice a0 n0 c0, .slice a1 n1 c1, .int .i64 N]
theorem infoHash : (Tryd.prog.info? 27).map (·.size) = some 3 := by kernel_rfl

theorem hsum_at8 {w : World} {g : Nat} {t : TypeId} {h : List Int} {a : Option Addr} {m c : Nat} {n : Int} (hB : Blk w g t (sumCells h a m c n)) (hh : h.length = 8) : w.cell? ⟨g, 8, none⟩ = some (.slice a m c) :=
  hB.cell 8 (by simp [sumCells, hh])
theorem hsum_at9 {w : World} {g : Nat} {t : TypeId} {h : List Int} {a : Option Addr} {m c : Nat} {n : Int} (hB : Blk w g t (sumCells h a m c n)) (hh : h.length = 8) : w.cell? ⟨g, 9, none⟩ = some (.int .i64 n) :=
  hB.cell 9 (by simp [sumCells, hh])

/-- What stands while a hash is laid into block r0: the sum, what it holds, the block. -/
def Here (w : World) (g : Nat) (h : List Int) (ao : Option Addr) (m c : Nat) (n : Int) (held : List Int) (r0 : Nat) (z : List Value) (w' : World) : Prop :=
  Blk w' g 57 (sumCells h ao m c n) ∧ Rd w' ao held ∧ Blk w' r0 27 z ∧ Below w.heap.size w w'
theorem Here.next {w : World} {g : Nat} {h : List Int} {ao : Option Addr} {m c : Nat} {n : Int} {held : List Int} {r0 : Nat} {z : List Value} {w1 w2 : World} (H : Here w g h ao m c n held r0 z w1) (b : Below w1.heap.size w1 w2) : Here w g h ao m c n held r0 z w2 :=
  ⟨H.1.later b, H.2.1.later b (Nat.le_refl _), H.2.2.1.later b, H.2.2.2.trans (b.mono H.2.2.2.size)⟩
theorem Here.cells {w : World} {g : Nat} {h : List Int} {ao : Option Addr} {m c : Nat} {n : Int} {held : List Int} {r0 : Nat} {z0 z1 z2 : Value} {w1 : World} (H : Here w g h ao m c n held r0 [z0, z1, z2] w1) (hh : h.length = 8) :
    w1.cell? ⟨g, 8, none⟩ = some (.slice ao m c) ∧ w1.cell? ⟨g, 9, none⟩ = some (.int .i64 n) ∧ w1.cell? ⟨r0, 0, none⟩ = some z0 ∧ w1.cell? ⟨r0, 1, none⟩ = some z1 ∧ w1.cell? ⟨r0, 2, none⟩ = some z2 ∧ w1.frozen? ⟨r0, 0, none⟩ = false ∧ w1.frozen? ⟨r0, 1, none⟩ = false ∧ w1.frozen? ⟨r0, 2, none⟩ = false :=
  ⟨hsum_at8 H.1 hh, hsum_at9 H.1 hh, H.2.2.1.cell 0 rfl, H.2.2.1.cell 1 rfl, H.2.2.1.cell 2 rfl, H.2.2.1.frozen 0, H.2.2.1.frozen 1, H.2.2.1.frozen 2⟩

theorem laid3 {w wx : World} {r0 gh ch gb cb : Nat} {h held : List Int} {z0 z1 z2 : Value} (hz : Blk wx r0 27 [z0, z1, z2]) (hH : IRow wx gh ch h) (hB : Row wx gb cb held) (n1 : gh ≠ r0) (n2 : gb ≠ r0) (hb : Below w.heap.size w wx) (hr : w.heap.size ≤ r0) (v0 v1 v2 : Value) :
    Blk (((wx.setCell ⟨r0, 0, none⟩ v0).setCell ⟨r0, 1, none⟩ v1).setCell ⟨r0, 2, none⟩ v2) r0 27 [v0, v1, v2] ∧ IRow (((wx.setCell ⟨r0, 0, none⟩ v0).setCell ⟨r0, 1, none⟩ v1).setCell ⟨r0, 2, none⟩ v2) gh ch h ∧ Row (((wx.setCell ⟨r0, 0, none⟩ v0).setCell ⟨r0, 1, none⟩ v1).setCell ⟨r0, 2, none⟩ v2) gb cb held ∧ Below w.heap.size w (((wx.setCell ⟨r0, 0, none⟩ v0).setCell ⟨r0, 1, none⟩ v1).setCell ⟨r0, 2, none⟩ v2) := by
  have m3 : ∀ n, n = 3 → n ≤ maxLen := by rintro _ rfl; simp [maxLen]
  refine ⟨?_, ?_, ?_, ?_⟩
  · exact ((hz.set 0 v0 (m3 _ rfl)).set 1 v1 (m3 _ rfl)).set 2 v2 (m3 _ rfl)
  · exact ((hH.keep (Below.heap_setCell _ _ _ _ n1)).keep (Below.heap_setCell _ _ _ _ n1)).keep (Below.heap_setCell _ _ _ _ n1)
  · exact ((hB.keep (Below.heap_setCell _ _ _ _ n2)).keep (Below.heap_setCell _ _ _ _ n2)).keep (Below.heap_setCell _ _ _ _ n2)
  · exact ((hb.setCell hr _).setCell hr _).setCell hr _

set_option maxRecDepth 100000 in
set_option maxHeartbeats 2000000 in
theorem hashOf (g : Nat) (h : List Int) (ao : Option Addr) (m c : Nat) (n : Int) (held : List Int) (w : World)
    (hB : Blk w g 57 (sumCells h ao m c n)) (hh : h.length = 8) (hm : m = held.length) (hx : Rd w ao held) (nx : ao = none → c = 0) (hml : m ≤ 2097152) :
    Calls Tryd.prog 51 #[.pointer (some ⟨g, 0, none⟩)] w fun e w' =>
      ∃ gh ch gb cb, e = .returned (hashV (some ⟨gh, 0, none⟩) 8 ch (some ⟨gb, 0, none⟩) m cb n) ∧ w.heap.size ≤ gh ∧ w.heap.size ≤ gb ∧ gh ≠ gb ∧ IRow w' gh ch h ∧ Row w' gb cb held ∧ Below w.heap.size w w' := by
  have HH : Hid (h.length = 8) := hh
  have HM : Hid (m = held.length) := hm
  obtain ⟨w0, hw0⟩ : ∃ w0, w.alloc (.cells #[.slice none 0 0, .slice none 0 0, .int .i64 0] 27) = w0 := ⟨_, rfl⟩
  have HW0 : Hid (w.alloc (.cells #[.slice none 0 0, .slice none 0 0, .int .i64 0] 27) = w0) := hw0
  have hsz : w0.heap.size = w.heap.size + 1 := by rw [← hw0]; simp
  have HSZ : Hid (w0.heap.size = w.heap.size + 1) := hsz
  have B0 : Below w.heap.size w w0 := by rw [← hw0]; exact (Below.refl _ _).alloc (Nat.le_refl _) _
  have HHere : Hid (Here w g h ao m c n held w.heap.size [.slice none 0 0, .slice none 0 0, .int .i64 0] w0.drew) :=
    ⟨blk_drew (hB.later B0), Rd.drewN (hx.later B0 (Nat.le_refl _)) 1, by rw [← hw0]; exact blk_drew (Blk.new w 27 [.slice none 0 0, .slice none 0 0, .int .i64 0]), B0.drew⟩
  clear hB hh hm hx hw0 hsz B0
  have HC := HHere.out.cells HH.out
  obtain ⟨c8, c9, t0, t1, t2, f0, f1, f2⟩ := HC
  go_enter Tryd.func51, Tryd.ntmps51
  go_wp2
  rw [HW0.out]
  go_region_with (first
    | (go_at_call 78; refine (listOf g 57 h _ _ HHere.out.1 HH.out).mono ?_; rintro e wl ⟨gh, ch, rfl, kl, rl, bl⟩; (try have NE : Hid (gh ≠ w0.drew.heap.size) := Nat.ne_of_gt (Nat.lt_of_lt_of_le RB.out.lt kl)); have KH : Hid (w.heap.size + 1 ≤ gh) := (by (first | exact HSZ.out ▸ kl | exact Nat.le_trans (Nat.le_of_lt (HSZ.out ▸ RB.out.lt)) kl)); have RH : Hid (IRow wl gh ch h) := rl; (try have RB : Hid (Row wl w0.drew.heap.size (m + 0) (held ++ [])) := RB.out.later bl); have HHere : Hid (Here w g h ao m c n held w.heap.size [.slice none 0 0, .slice none 0 0, .int .i64 0] wl) := HHere.out.next bl; have HC := HHere.out.cells HH.out; clear rl bl kl; obtain ⟨c8, c9, t0, t1, t2, f0, f1, f2⟩ := HC)
    | (go_at_call 62; refine (putBytes ao none m c 0 0 held [] _ HM.out rfl HHere.out.2.1 (by intro i hi; cases hi) nx (fun _ => rfl) (by rw [← HM.out]; omega) (by simp)).mono ?_; rintro e wp ⟨rfl, rp, bp⟩; (try have HLT : Hid (gh < wl.heap.size) := RH.out.lt); (try have NE : Hid (gh ≠ wl.heap.size) := Nat.ne_of_lt RH.out.lt); (try have RH : Hid (IRow wp gh ch h) := RH.out.later bp); have HHere : Hid (Here w g h ao m c n held w.heap.size [.slice none 0 0, .slice none 0 0, .int .i64 0] wp) := HHere.out.next bp; have HC := HHere.out.cells HH.out; (first | (have RB : Hid (Row wp wl.heap.size (m + 0) (held ++ [])) := rp) | (have RB : Hid (Row wp w0.drew.heap.size (m + 0) (held ++ [])) := rp)); clear bp rp; obtain ⟨c8, c9, t0, t1, t2, f0, f1, f2⟩ := HC))
  all_goals
    go_wp2
    first
      | (have L3 := laid3 (w := w) HHere.out.2.2.1 RH.out RB.out (Nat.ne_of_gt KH.out) (Nat.ne_of_gt (Nat.lt_of_lt_of_le KH.out (Nat.le_of_lt HLT.out))) HHere.out.2.2.2 (Nat.le_refl _) (.slice (some ⟨gh, 0, none⟩) 8 ch) (.slice (some ⟨wl.heap.size, 0, none⟩) m m) (.int .i64 n); refine bodyPost_ret (v := hashV (some ⟨gh, 0, none⟩) 8 ch (some ⟨wl.heap.size, 0, none⟩) m m n) (results_cell_row rfl _ _ w.heap.size 27 _ (0, 0) _ rfl L3.1 Tryd.underlying27 rfl infoHash) rfl ⟨gh, ch, wl.heap.size, m, rfl, Nat.le_of_lt KH.out, Nat.le_of_lt (Nat.lt_of_lt_of_le KH.out (Nat.le_of_lt HLT.out)), NE.out, L3.2.1, (List.append_nil held) ▸ L3.2.2.1, L3.2.2.2⟩)
      | (have L3 := laid3 (w := w) HHere.out.2.2.1 RH.out RB.out (Nat.ne_of_gt KH.out) (Nat.ne_of_gt (show w.heap.size < w0.heap.size by rw [HSZ.out]; omega)) HHere.out.2.2.2 (Nat.le_refl _) (.slice (some ⟨gh, 0, none⟩) 8 ch) (.slice (some ⟨w0.drew.heap.size, 0, none⟩) m m) (.int .i64 n); refine bodyPost_ret (v := hashV (some ⟨gh, 0, none⟩) 8 ch (some ⟨w0.drew.heap.size, 0, none⟩) m m n) (results_cell_row rfl _ _ w.heap.size 27 _ (0, 0) _ rfl L3.1 Tryd.underlying27 rfl infoHash) rfl ⟨gh, ch, w0.drew.heap.size, m, rfl, Nat.le_of_lt KH.out, Nat.le_of_lt (show w.heap.size < w0.heap.size by rw [HSZ.out]; omega), NE.out, L3.2.1, (List.append_nil held) ▸ L3.2.2.1, L3.2.2.2⟩)
end Go.Proofs.YtfoilfbpbjfkcaaDoor.Hashs
