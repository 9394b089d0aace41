/-
  The walk of the law FnExactGetN: at every slice of bytes and every two ints it answers true, and nothing that was there is written.
-/
import Derived.Test.YtdfjpmldcbbmkaaGet
namespace Go.Proofs.Ytdfjpmldcbbmkaa.LawGetN
open Go.RowKit Go.Proofs.Ytdfjpmldcbbmkaa.Mem Go.Proofs.Ytdfjpmldcbbmkaa.App Go.Proofs.Ytdfjpmldcbbmkaa.Get

theorem got_form (l : List Int) (i k : Int) : ∃ x y b, gotN l i k = .tuple #[.int .i64 x, .int .i64 y, .bool b] := by
  unfold gotN; split <;> exact ⟨_, _, _, rfl⟩

set_option maxHeartbeats 1600000 in
theorem small (a : Option Addr) (len cap : Nat) (l : List Int) (i k : Int) (w : World) (hl : len = l.length) (hr : Rd w a l) (hb : Bytes l) (hlen : len ≤ 1048576) (hi : i ≤ 9223372036854775807) :
    Calls Try.prog 7 #[.slice a len cap, .int .i64 i, .int .i64 k] w fun e w' => e = .returned (.bool true) ∧ Below w.heap.size w w' := by
  have HR : Hid (Rd w a l) := hr
  have HL : Hid (len = l.length) := hl
  have HY : Hid (Bytes l) := hb
  have hll : l.length ≤ 1048576 := by omega
  clear hr hl hb
  obtain ⟨x, y, ok, hg⟩ := got_form l i k
  have HG : Hid (gotN l i k = .tuple #[.int .i64 x, .int .i64 y, .bool ok]) := hg
  clear hg
  go_enter Try.func7, Try.ntmps7
  go_wp2_with fail
  refine (toByteS a len cap l _ HL.out HR.out (by omega)).mono ?_
  rintro e x1 ⟨rfl, rx1, bx1⟩
  have ltx1 : w.heap.size < x1.heap.size := rx1.lt
  have Nx1 : Hid (Row x1 w.heap.size len l) := rx1
  clear rx1
  have Bx1 : Hid (Below w.heap.size w x1) := bx1
  have Sx1 : Hid (w.heap.size ≤ x1.heap.size) := bx1.size
  clear bx1
  go_wp2_with fail
  refine (specGetN _ len len l i k _ HL.out Nx1.out.rd HY.out (by omega)).mono ?_
  rw [HG.out]
  rintro e y1 ⟨rfl, rfl⟩
  clear Nx1
  go_wp2_with fail
  refine (toByteS a len cap l _ HL.out (HR.out.later Bx1.out (Nat.le_refl _)) (by omega)).mono ?_
  rintro e x2 ⟨rfl, rx2, bx2⟩
  have ltx2 : x1.heap.size < x2.heap.size := rx2.lt
  have Nx2 : Hid (Row x2 x1.heap.size len l) := rx2
  clear rx2
  have Bx2 : Hid (Below w.heap.size w x2) := Bx1.out.trans (bx2.mono Bx1.out.size)
  have Sx2 : Hid (x1.heap.size ≤ x2.heap.size) := bx2.size
  clear Bx1
  clear bx2
  go_wp2_with fail
  refine (implGetN _ len len l i k _ HL.out Nx2.out.rd HY.out (Nat.le_refl _) (by omega) hi).mono ?_
  rw [HG.out]
  rintro e y1 ⟨rfl, rfl⟩
  go_wp2_with fail
  refine (toByteS a len cap l _ HL.out (HR.out.later Bx2.out (Nat.le_refl _)) (by omega)).mono ?_
  rintro e x3 ⟨rfl, rx3, bx3⟩
  have ltx3 : x2.heap.size < x3.heap.size := rx3.lt
  have Nx3 : Hid (Row x3 x2.heap.size len l) := rx3
  clear rx3
  have Rx3x : Hid (Row x3 x1.heap.size len l) := Nx2.out.later bx3
  clear Nx2
  have Bx3 : Hid (Below w.heap.size w x3) := Bx2.out.trans (bx3.mono Bx2.out.size)
  have Sx3 : Hid (x2.heap.size ≤ x3.heap.size) := bx3.size
  clear Bx2
  clear bx3
  go_wp2_with fail
  refine (eqByteS _ _ len len len len l l _ HL.out HL.out Rx3x.out.rd Nx3.out.rd (by omega) (by omega)).mono ?_
  rintro e x4 ⟨rfl, mx4, dx4⟩
  have bx4 : Below x3.heap.size x3 x4 := by rw [dx4]; exact below_drewN (Below.refl _ _) _
  clear dx4
  have Rx4x : Hid (Row x4 x1.heap.size len l) := Rx3x.out.later bx4
  clear Rx3x
  have Rx4t2 : Hid (Row x4 x2.heap.size len l) := Nx3.out.later bx4
  clear Nx3
  have Bx4 : Hid (Below w.heap.size w x4) := Bx3.out.trans (bx4.mono Bx3.out.size)
  have Sx4 : Hid (x3.heap.size ≤ x4.heap.size) := bx4.size
  clear Bx3
  clear bx4
  go_wp2
  go_ret
  exact ⟨rfl, Bx4.out⟩

theorem walk (a : Option Addr) (len cap : Nat) (z : List Int) (i k : Int) (w : World) (h : IsRow .u8 w a len cap z) (hi : i ≤ 9223372036854775807) :
    Calls Try.prog 7 #[.slice a len cap, .int .i64 i, .int .i64 k] w fun e w' => e = .returned (.bool true) ∧ Below w.heap.size w w' := by
  obtain ⟨l, h1, h2, _, h4⟩ := h.read
  by_cases hl : len ≤ 1048576
  · exact small a len cap l i k w h1 h2 h4 hl hi
  · have hl' : (1048576 : Int) < (len : Int) := by omega
    clear h h1 h2 h4 hl hi
    go_enter Try.func7, Try.ntmps7
    go_wp2
    go_ret
    exact ⟨rfl, Below.refl _ _⟩
end Go.Proofs.Ytdfjpmldcbbmkaa.LawGetN
