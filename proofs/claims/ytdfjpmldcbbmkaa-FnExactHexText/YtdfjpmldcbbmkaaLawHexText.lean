/-
  The walk of the law FnExactHexText: at every slice of bytes it answers true, and nothing that was there is written.
-/
import Derived.Test.YtdfjpmldcbbmkaaHexT
namespace Go.Proofs.Ytdfjpmldcbbmkaa.LawHexText
open Go.RowKit Go.Proofs.Ytdfjpmldcbbmkaa.Mem Go.Proofs.Ytdfjpmldcbbmkaa.App Go.Proofs.Ytdfjpmldcbbmkaa.HexT

set_option maxHeartbeats 1600000 in
theorem small (a : Option Addr) (len cap : Nat) (l : List Int) (w : World) (hl : len = l.length) (hr : Rd w a l) (hb : Bytes l) (hlen : len ≤ 1048576) :
    Calls Try.prog 11 #[.slice a len cap] w fun e w' => e = .returned (.bool true) ∧ Below w.heap.size w w' := by
  have HR : Hid (Rd w a l) := hr
  have HL : Hid (len = l.length) := hl
  have HY : Hid (Bytes l) := hb
  have hll : l.length ≤ 1048576 := by omega
  clear hr hl hb
  generalize hss : strOfNums (hexOf l) = s at *
  have HS : Hid (strOfNums (hexOf l) = s) := hss
  clear hss
  have hcmp : (s.toList != s.toList) = false := by simp
  go_enter Try.func11, Try.ntmps11
  go_wp2_with fail
  refine (toByteS a len cap l _ HL.out HR.out (by omega)).mono ?_
  rintro e x1 ⟨rfl, rx1, bx1⟩
  have ltx1 : w.heap.size < x1.heap.size := rx1.lt
  have Nx1 : Hid (Row x1 w.heap.size len l) := rx1
  clear rx1
  have Bx1 : Hid (Below w.heap.size w x1) := bx1
  have Sx1 : Hid (w.heap.size ≤ x1.heap.size) := bx1.size
  clear bx1
  go_wp2_with fail
  refine (specHexText _ len len l _ HL.out Nx1.out.rd HY.out (by omega)).mono ?_
  rw [HS.out]
  rintro e x2 ⟨rfl, bx2⟩
  clear Nx1
  have Bx2 : Hid (Below w.heap.size w x2) := Bx1.out.trans (bx2.mono Bx1.out.size)
  have Sx2 : Hid (x1.heap.size ≤ x2.heap.size) := bx2.size
  clear Bx1
  clear bx2
  go_wp2_with fail
  refine (toByteS a len cap l _ HL.out (HR.out.later Bx2.out (Nat.le_refl _)) (by omega)).mono ?_
  rintro e x3 ⟨rfl, rx3, bx3⟩
  have ltx3 : x2.heap.size < x3.heap.size := rx3.lt
  have Nx3 : Hid (Row x3 x2.heap.size len l) := rx3
  clear rx3
  have Bx3 : Hid (Below w.heap.size w x3) := Bx2.out.trans (bx3.mono Bx2.out.size)
  have Sx3 : Hid (x2.heap.size ≤ x3.heap.size) := bx3.size
  clear Bx2
  clear bx3
  go_wp2_with fail
  refine (implHexText _ len len l _ HL.out Nx3.out.rd HY.out (by omega)).mono ?_
  rw [HS.out]
  rintro e x4 ⟨rfl, bx4⟩
  have Rx4x : Hid (Row x4 x2.heap.size len l) := Nx3.out.later bx4
  clear Nx3
  have Bx4 : Hid (Below w.heap.size w x4) := Bx3.out.trans (bx4.mono Bx3.out.size)
  have Sx4 : Hid (x3.heap.size ≤ x4.heap.size) := bx4.size
  clear Bx3
  clear bx4
  go_wp2_with fail
  refine (toByteS a len cap l _ HL.out (HR.out.later Bx4.out (Nat.le_refl _)) (by omega)).mono ?_
  rintro e x5 ⟨rfl, rx5, bx5⟩
  have ltx5 : x4.heap.size < x5.heap.size := rx5.lt
  have Nx5 : Hid (Row x5 x4.heap.size len l) := rx5
  clear rx5
  have Rx5x : Hid (Row x5 x2.heap.size len l) := Rx4x.out.later bx5
  clear Rx4x
  have Bx5 : Hid (Below w.heap.size w x5) := Bx4.out.trans (bx5.mono Bx4.out.size)
  have Sx5 : Hid (x4.heap.size ≤ x5.heap.size) := bx5.size
  clear Bx4
  clear bx5
  go_wp2_with fail
  refine (eqByteS _ _ len len len len l l _ HL.out HL.out Rx5x.out.rd Nx5.out.rd (by omega) (by omega)).mono ?_
  rintro e x6 ⟨rfl, mx6, dx6⟩
  have bx6 : Below x5.heap.size x5 x6 := by rw [dx6]; exact below_drewN (Below.refl _ _) _
  clear dx6
  have Rx6x : Hid (Row x6 x2.heap.size len l) := Rx5x.out.later bx6
  clear Rx5x
  have Rx6t2 : Hid (Row x6 x4.heap.size len l) := Nx5.out.later bx6
  clear Nx5
  have Bx6 : Hid (Below w.heap.size w x6) := Bx5.out.trans (bx6.mono Bx5.out.size)
  have Sx6 : Hid (x5.heap.size ≤ x6.heap.size) := bx6.size
  clear Bx5
  clear bx6
  go_wp2
  go_ret
  exact ⟨rfl, Bx6.out⟩

theorem walk (a : Option Addr) (len cap : Nat) (z : List Int) (w : World) (h : IsRow .u8 w a len cap z) :
    Calls Try.prog 11 #[.slice a len cap] w fun e w' => e = .returned (.bool true) ∧ Below w.heap.size w w' := by
  obtain ⟨l, h1, h2, _, h4⟩ := h.read
  by_cases hl : len ≤ 1048576
  · exact small a len cap l w h1 h2 h4 hl
  · have hl' : (1048576 : Int) < (len : Int) := by omega
    clear h h1 h2 h4 hl
    go_enter Try.func11, Try.ntmps11
    go_wp2
    go_ret
    exact ⟨rfl, Below.refl _ _⟩
end Go.Proofs.Ytdfjpmldcbbmkaa.LawHexText
