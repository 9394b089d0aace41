/-
  The walks of the laws FnExactAddrText and FnExactParseAddr: at every argument they answer true, and nothing that was there is written.
-/
import Derived.Test.YticfgbfchpnpoaaDoorAddrL
import Derived.Test.YticfgbfchpnpoaaDoorAddrK
namespace Go.Proofs.YticfgbfchpnpoaaDoor.LawAddrs2
open Go.RowKit Go.Proofs.YticfgbfchpnpoaaDoor.Mem Go.Proofs.YticfgbfchpnpoaaDoor.Blk Go.Proofs.YticfgbfchpnpoaaDoor.Str Go.Proofs.YticfgbfchpnpoaaDoor.AddrP Go.Proofs.YticfgbfchpnpoaaDoor.AddrS Go.Proofs.YticfgbfchpnpoaaDoor.AddrT Go.Proofs.YticfgbfchpnpoaaDoor.AddrR Go.Proofs.YticfgbfchpnpoaaDoor.AddrL Go.Proofs.YticfgbfchpnpoaaDoor.AddrJ Go.Proofs.YticfgbfchpnpoaaDoor.AddrK Go.Proofs.YticfgbfchpnpoaaDoor.Itoa

set_option maxRecDepth 100000 in
set_option maxHeartbeats 800000 in
theorem addrText_walk (h p : Int) (w : World) (hT : Pow w) :
    Calls Tryd.prog 5 #[addrV h p] w fun e w' => e = .returned (.bool true) ∧ Below w.heap.size w w' := by
  have HT : Hid (Pow w) := hT
  clear hT
  obtain ⟨v, hv⟩ : ∃ v, strOfNums (addrI h p) = v := ⟨_, rfl⟩
  have HV : Hid (strOfNums (addrI h p) = v) := hv
  have hvv : (v.toList != v.toList) = false := by simp
  obtain ⟨w0, hw0⟩ : ∃ w0, w.alloc (.cells #[.int .i64 h, .int .i64 p] 39) = w0 := ⟨_, rfl⟩
  have HW0 : Hid (w.alloc (.cells #[.int .i64 h, .int .i64 p] 39) = w0) := hw0
  have B0 : Hid (Below w.heap.size w w0) := by rw [← hw0]; exact (Below.refl _ _).alloc (Nat.le_refl _) _
  have K0 : Hid (Blk w0 w.heap.size 39 [.int .i64 h, .int .i64 p]) := by rw [← hw0]; exact Blk.new w _ _
  clear hv hw0
  have c0 := K0.out.cell 0 rfl
  have c1 := K0.out.cell 1 rfl
  unfold addrV
  go_enter Tryd.func5, Tryd.ntmps5
  go_upto_region 1 with fail
  rw [HW0.out]
  go_wp2_with fail
  refine (toAddr h p w0).mono ?_
  rintro e w1 ⟨rfl, b1⟩
  have B1 : Hid (Below w.heap.size w w1) := B0.out.trans (b1.mono B0.out.size)
  have K1 : Hid (Blk w1 w.heap.size 39 [.int .i64 h, .int .i64 p]) := K0.out.later b1
  clear b1 B0 K0 c0 c1
  go_wp2_with fail
  refine (specAddrText h p w1).mono ?_
  rw [HV.out]
  rintro e w2 ⟨rfl, b2⟩
  have B2 : Hid (Below w.heap.size w w2) := B1.out.trans (b2.mono B1.out.size)
  have K2 : Hid (Blk w2 w.heap.size 39 [.int .i64 h, .int .i64 p]) := K1.out.later b2
  clear b2 B1 K1
  have c0 := K2.out.cell 0 rfl
  have c1 := K2.out.cell 1 rfl
  go_wp2_with fail
  refine (toAddr h p w2).mono ?_
  rintro e w3 ⟨rfl, b3⟩
  have B3 : Hid (Below w.heap.size w w3) := B2.out.trans (b3.mono B2.out.size)
  clear b3 B2 K2 c0 c1
  go_wp2_with fail
  refine (implAddrText h p w3 (HT.out.later B3.out)).mono ?_
  rw [HV.out]
  rintro e w4 ⟨rfl, b4⟩
  have B4 : Hid (Below w.heap.size w w4) := B3.out.trans (b4.mono B3.out.size)
  clear b4 B3
  go_wp2
  go_ret
  exact ⟨rfl, B4.out⟩

set_option maxRecDepth 100000 in
set_option maxHeartbeats 1600000 in
theorem parse_small (s : ByteArray) (w : World) (hT : Pow w) (hs : s.size ≤ 1048576) :
    Calls Tryd.prog 6 #[.string s] w fun e w' => e = .returned (.bool true) ∧ Below w.heap.size w w' := by
  have HT : Hid (Pow w) := hT
  clear hT
  have hsI : ¬ ((s.size : Int) > 1048576) := by omega
  go_enter Tryd.func6, Tryd.ntmps6
  go_wp2_with fail
  refine (specParseAddr s w hs).mono ?_
  rintro e w1 ⟨x, y, ok, rfl, hR, b1⟩
  have HR : Hid (Reads (bs s) x y ok) := hR
  obtain ⟨w2, hw2⟩ : ∃ w2, w1.alloc (.cells #[.int .i64 x, .int .i64 y] 25) = w2 := ⟨_, rfl⟩
  have HW2 : Hid (w1.alloc (.cells #[.int .i64 x, .int .i64 y] 25) = w2) := hw2
  have B2 : Hid (Below w.heap.size w w2) := by rw [← hw2]; exact b1.alloc b1.size _
  have K2 : Hid (Blk w2 w1.heap.size 25 [.int .i64 x, .int .i64 y]) := by rw [← hw2]; exact Blk.new w1 _ _
  clear hw2 b1 hR
  unfold addrV
  go_wp2_with fail
  rw [HW2.out]
  generalize w1.heap.size = g1 at *
  clear HW2
  refine (implParseAddr s w2 (HT.out.later B2.out)).mono ?_
  rintro e w3 ⟨x', y', ok', rfl, hR, b3⟩
  obtain ⟨h1, h2, h3⟩ : x = x' ∧ y = y' ∧ ok = ok' := AddrP.Reads.unique HR.out hR
  subst h1 h2 h3
  obtain ⟨w4, hw4⟩ : ∃ w4, w3.alloc (.cells #[.int .i64 x, .int .i64 y] 25) = w4 := ⟨_, rfl⟩
  have HW4 : Hid (w3.alloc (.cells #[.int .i64 x, .int .i64 y] 25) = w4) := hw4
  have B3 : Hid (Below w.heap.size w w3) := B2.out.trans (b3.mono B2.out.size)
  have B4 : Hid (Below w.heap.size w w4) := by rw [← hw4]; exact B3.out.alloc B3.out.size _
  have K4 : Hid (Blk w4 g1 25 [.int .i64 x, .int .i64 y]) := by rw [← hw4]; exact (K2.out.later b3).alloc _
  have L4 : Hid (Blk w4 w3.heap.size 25 [.int .i64 x, .int .i64 y]) := by rw [← hw4]; exact Blk.new w3 _ _
  clear hw4 b3 B2 K2 B3 hR HR
  unfold addrV
  go_upto_region 5 with fail
  rw [HW4.out]
  generalize w3.heap.size = g3 at *
  have c0 := K4.out.cell 0 rfl
  have c1 := K4.out.cell 1 rfl
  have d0 := L4.out.cell 0 rfl
  have d1 := L4.out.cell 1 rfl
  have hbb : (ok != ok) = false := by simp
  clear HW4
  go_wp2_with fail
  refine (eqAddr x y x y w4).mono ?_
  rw [decide_eq_true (show x = x ∧ y = y from ⟨rfl, rfl⟩)]
  rintro e w5 ⟨rfl, b5⟩
  have B5 : Hid (Below w.heap.size w w5) := B4.out.trans (b5.mono B4.out.size)
  clear b5
  go_wp2
  go_ret
  exact ⟨rfl, B5.out⟩
theorem parse_walk (s : ByteArray) (w : World) (hT : Pow w) :
    Calls Tryd.prog 6 #[.string s] w fun e w' => e = .returned (.bool true) ∧ Below w.heap.size w w' := by
  by_cases hs : s.size ≤ 1048576
  · exact parse_small s w hT hs
  · have hsI : (s.size : Int) > 1048576 := by omega
    clear hs
    go_enter Tryd.func6, Tryd.ntmps6
    go_wp2
    go_ret
    exact ⟨rfl, Below.refl _ _⟩
end Go.Proofs.YticfgbfchpnpoaaDoor.LawAddrs2
