/-
  The walk of the law FnExactCut: at every slice of bytes and every two ints it answers true, and nothing that was there is written.
-/
import Derived.Test.YtdfjpmldcbbmkaaCuts
namespace Go.Proofs.Ytdfjpmldcbbmkaa.LawCut
open Go.RowKit Go.Proofs.Ytdfjpmldcbbmkaa.Mem Go.Proofs.Ytdfjpmldcbbmkaa.App Go.Proofs.Ytdfjpmldcbbmkaa.Get Go.Proofs.Ytdfjpmldcbbmkaa.Cuts

set_option maxHeartbeats 1600000 in
theorem small (a : Option Addr) (len cap : Nat) (l : List Int) (i k : Int) (w : World) (hl : len = l.length) (hr : Rd w a l) (hlen : len ≤ 1048576) (hi : i ≤ 9223372036854775807) :
    Calls Try.prog 10 #[.slice a len cap, .int .i64 i, .int .i64 k] w fun e w' => e = .returned (.bool true) ∧ Below w.heap.size w w' := by
  have HR : Hid (Rd w a l) := hr
  have HL : Hid (len = l.length) := hl
  have hll : l.length ≤ 1048576 := by omega
  have HPL : Hid ((cutOf l i k).length ≤ 1048576) := Nat.le_trans (cutOf_length l i k) hll
  clear hr hl
  generalize hrr : cutOf l i k = r at *
  have HRR : Hid (cutOf l i k = r) := hrr
  clear hrr
  generalize ho : there len i k = ok at *
  have HO : Hid (there len i k = ok) := ho
  clear ho
  go_enter Try.func10, Try.ntmps10
  go_wp2_with fail
  refine (toByteS a len cap l _ HL.out HR.out (by omega)).mono ?_
  rintro e x1 ⟨rfl, rx1, bx1⟩
  have ltx1 : w.heap.size < x1.heap.size := rx1.lt
  have Nx1 : Hid (Row x1 w.heap.size len l) := rx1
  clear rx1
  have Bx1 : Hid (Below w.heap.size w x1) := bx1
  have Sx1 : Hid (w.heap.size ≤ x1.heap.size) := bx1.size
  clear bx1
  go_wp2_with fail
  refine (specCut _ 0 len len l i k _ HL.out Nx1.out.rd (Nat.le_refl _) (by omega)).mono ?_
  rw [HRR.out, HO.out]
  rintro e x2 ⟨gw, mw, cw, rfl, ex2, hx2, rx2, bx2⟩
  have Ew : Hid (mw = r.length) := ex2
  have Nx2 : Hid (Row x2 gw cw r) := rx2
  clear ex2 rx2
  have Rx2t1 : Hid (Row x2 w.heap.size len l) := Nx1.out.later bx2
  clear Nx1
  have Bx2 : Hid (Below w.heap.size w x2) := Bx1.out.trans (bx2.mono Bx1.out.size)
  have Sx2 : Hid (x1.heap.size ≤ x2.heap.size) := bx2.size
  clear Bx1
  clear bx2
  clear Rx2t1
  have lw : gw < x2.heap.size := Nx2.out.lt
  go_wp2_with fail
  refine (toByteS a len cap l _ HL.out (HR.out.later Bx2.out (Nat.le_refl _)) (by omega)).mono ?_
  rintro e x3 ⟨rfl, rx3, bx3⟩
  have ltx3 : x2.heap.size < x3.heap.size := rx3.lt
  have Nx3 : Hid (Row x3 x2.heap.size len l) := rx3
  clear rx3
  have Rx3w : Hid (Row x3 gw cw r) := Nx2.out.later bx3
  clear Nx2
  have Bx3 : Hid (Below w.heap.size w x3) := Bx2.out.trans (bx3.mono Bx2.out.size)
  have Sx3 : Hid (x2.heap.size ≤ x3.heap.size) := bx3.size
  clear Bx2
  clear bx3
  go_wp2_with fail
  refine (implCut _ 0 len len l i k _ HL.out Nx3.out.rd (Nat.le_refl _) (by omega) hi).mono ?_
  rw [HRR.out, HO.out]
  rintro e x4 ⟨gg, mg, cg, rfl, ex4, hx4, rx4, bx4⟩
  have Eg : Hid (mg = r.length) := ex4
  have Nx4 : Hid (Row x4 gg cg r) := rx4
  clear ex4 rx4
  have Rx4w : Hid (Row x4 gw cw r) := Rx3w.out.later bx4
  clear Rx3w
  have Rx4x : Hid (Row x4 x2.heap.size len l) := Nx3.out.later bx4
  clear Nx3
  have Bx4 : Hid (Below w.heap.size w x4) := Bx3.out.trans (bx4.mono Bx3.out.size)
  have Sx4 : Hid (x3.heap.size ≤ x4.heap.size) := bx4.size
  clear Bx3
  clear bx4
  go_wp2_with fail
  refine (eqByteS _ _ mg cg mw cw r r _ Eg.out Ew.out Nx4.out.rd Rx4w.out.rd (by have := HPL.out; omega) (by have := HPL.out; omega)).mono ?_
  rintro e x5 ⟨rfl, mx5, dx5⟩
  have bx5 : Below x4.heap.size x4 x5 := by rw [dx5]; exact below_drewN (Below.refl _ _) _
  clear dx5
  have Rx5w : Hid (Row x5 gw cw r) := Rx4w.out.later bx5
  clear Rx4w
  have Rx5x : Hid (Row x5 x2.heap.size len l) := Rx4x.out.later bx5
  clear Rx4x
  have Rx5g : Hid (Row x5 gg cg r) := Nx4.out.later bx5
  clear Nx4
  have Bx5 : Hid (Below w.heap.size w x5) := Bx4.out.trans (bx5.mono Bx4.out.size)
  have Sx5 : Hid (x4.heap.size ≤ x5.heap.size) := bx5.size
  clear Bx4
  clear bx5
  go_wp2_with fail
  refine (toByteS a len cap l _ HL.out (HR.out.later Bx5.out (Nat.le_refl _)) (by omega)).mono ?_
  rintro e x6 ⟨rfl, rx6, bx6⟩
  have ltx6 : x5.heap.size < x6.heap.size := rx6.lt
  have Nx6 : Hid (Row x6 x5.heap.size len l) := rx6
  clear rx6
  have Rx6w : Hid (Row x6 gw cw r) := Rx5w.out.later bx6
  clear Rx5w
  have Rx6x : Hid (Row x6 x2.heap.size len l) := Rx5x.out.later bx6
  clear Rx5x
  have Rx6g : Hid (Row x6 gg cg r) := Rx5g.out.later bx6
  clear Rx5g
  have Bx6 : Hid (Below w.heap.size w x6) := Bx5.out.trans (bx6.mono Bx5.out.size)
  have Sx6 : Hid (x5.heap.size ≤ x6.heap.size) := bx6.size
  clear Bx5
  clear bx6
  go_wp2_with fail
  refine (eqByteS _ _ len len len len l l _ HL.out HL.out Rx6x.out.rd Nx6.out.rd (by omega) (by omega)).mono ?_
  rintro e x7 ⟨rfl, mx7, dx7⟩
  have bx7 : Below x6.heap.size x6 x7 := by rw [dx7]; exact below_drewN (Below.refl _ _) _
  clear dx7
  have Rx7w : Hid (Row x7 gw cw r) := Rx6w.out.later bx7
  clear Rx6w
  have Rx7x : Hid (Row x7 x2.heap.size len l) := Rx6x.out.later bx7
  clear Rx6x
  have Rx7g : Hid (Row x7 gg cg r) := Rx6g.out.later bx7
  clear Rx6g
  have Rx7t2 : Hid (Row x7 x5.heap.size len l) := Nx6.out.later bx7
  clear Nx6
  have Bx7 : Hid (Below w.heap.size w x7) := Bx6.out.trans (bx7.mono Bx6.out.size)
  have Sx7 : Hid (x6.heap.size ≤ x7.heap.size) := bx7.size
  clear Bx6
  clear bx7
  clear Rx7t2
  have hpl := HPL.out
  have egl := Eg.out
  have sz := Sx1.out
  have sz2 := Sx2.out
  have HG : Hid (mg ≤ 1048576) := by show mg ≤ 1048576; omega
  clear hpl egl
  go_wp2_with fail
  refine (markByteS x2.heap.size len len l 1 _ HL.out Rx7x.out (by omega) (by omega) (by omega)).mono ?_
  rintro e x8 ⟨rfl, rx8, qx8⟩
  have Nx8 : Hid (Row x8 x2.heap.size len (marks 1 len)) := rx8
  clear rx8
  clear Rx7x
  have Rx8w : Hid (Row x8 gw cw r) := Rx7w.out.keep (qx8.block _ Rx7w.out.lt (by simp only [ne_eq, Option.some.injEq]; omega))
  clear Rx7w
  have Rx8g : Hid (Row x8 gg cg r) := Rx7g.out.keep (qx8.block _ Rx7g.out.lt (by simp only [ne_eq, Option.some.injEq]; omega))
  clear Rx7g
  have Bx8 : Hid (Below w.heap.size w x8) := Bx7.out.grown qx8 Bx7.out.size (fun k h => by cases h; omega)
  clear Bx7 qx8
  go_wp2_with fail
  refine (eqByteS _ _ mg cg mw cw r r _ Eg.out Ew.out Rx8g.out.rd Rx8w.out.rd (by have := HPL.out; omega) (by have := HPL.out; omega)).mono ?_
  rintro e x9 ⟨rfl, mx9, dx9⟩
  have bx9 : Below x8.heap.size x8 x9 := by rw [dx9]; exact below_drewN (Below.refl _ _) _
  clear dx9
  have Rx9w : Hid (Row x9 gw cw r) := Rx8w.out.later bx9
  clear Rx8w
  have Rx9g : Hid (Row x9 gg cg r) := Rx8g.out.later bx9
  clear Rx8g
  have Rx9x : Hid (Row x9 x2.heap.size len (marks 1 len)) := Nx8.out.later bx9
  clear Nx8
  have Bx9 : Hid (Below w.heap.size w x9) := Bx8.out.trans (bx9.mono Bx8.out.size)
  have Sx9 : Hid (x8.heap.size ≤ x9.heap.size) := bx9.size
  clear Bx8
  clear bx9
  have hmg := HG.out
  go_wp2_with fail
  refine (markByteS gg mg cg r 1 _ Eg.out Rx9g.out (by have := HPL.out; omega) (by omega) (by omega)).mono ?_
  rintro e x10 ⟨rfl, rx10, qx10⟩
  have Nx10 : Hid (Row x10 gg cg (marks 1 mg)) := rx10
  clear rx10
  clear Rx9g
  have Rx10w : Hid (Row x10 gw cw r) := Rx9w.out.keep (qx10.block _ Rx9w.out.lt (by simp only [ne_eq, Option.some.injEq]; omega))
  clear Rx9w
  have Rx10x : Hid (Row x10 x2.heap.size len (marks 1 len)) := Rx9x.out.keep (qx10.block _ Rx9x.out.lt (by simp only [ne_eq, Option.some.injEq]; omega))
  clear Rx9x
  have Bx10 : Hid (Below w.heap.size w x10) := Bx9.out.grown qx10 Bx9.out.size (fun k h => by cases h; omega)
  clear Bx9 qx10
  go_wp2_with fail
  refine (heldByteS _ cg mg 1 _ Nx10.out.rd (by omega) (by omega) (by omega)).mono ?_
  rintro e x11 ⟨rfl, rfl⟩
  go_wp2_with fail
  refine (toByteS a len cap l _ HL.out (HR.out.later Bx10.out (Nat.le_refl _)) (by omega)).mono ?_
  rintro e x12 ⟨rfl, rx12, bx12⟩
  have ltx12 : x10.heap.size < x12.heap.size := rx12.lt
  have Nx12 : Hid (Row x12 x10.heap.size len l) := rx12
  clear rx12
  have Rx12w : Hid (Row x12 gw cw r) := Rx10w.out.later bx12
  clear Rx10w
  have Rx12x : Hid (Row x12 x2.heap.size len (marks 1 len)) := Rx10x.out.later bx12
  clear Rx10x
  have Rx12g : Hid (Row x12 gg cg (marks 1 mg)) := Nx10.out.later bx12
  clear Nx10
  have Bx12 : Hid (Below w.heap.size w x12) := Bx10.out.trans (bx12.mono Bx10.out.size)
  have Sx12 : Hid (x10.heap.size ≤ x12.heap.size) := bx12.size
  clear Bx10
  clear bx12
  go_wp2_with fail
  refine (implCut _ 0 len len l i k _ HL.out Nx12.out.rd (Nat.le_refl _) (by omega) hi).mono ?_
  rw [HRR.out, HO.out]
  rintro e x13 ⟨gh, mh, ch, rfl, ex13, hx13, rx13, bx13⟩
  have Eh : Hid (mh = r.length) := ex13
  have Nx13 : Hid (Row x13 gh ch r) := rx13
  clear ex13 rx13
  have Rx13w : Hid (Row x13 gw cw r) := Rx12w.out.later bx13
  clear Rx12w
  have Rx13x : Hid (Row x13 x2.heap.size len (marks 1 len)) := Rx12x.out.later bx13
  clear Rx12x
  have Rx13g : Hid (Row x13 gg cg (marks 1 mg)) := Rx12g.out.later bx13
  clear Rx12g
  have Rx13t3 : Hid (Row x13 x10.heap.size len l) := Nx12.out.later bx13
  clear Nx12
  have Bx13 : Hid (Below w.heap.size w x13) := Bx12.out.trans (bx13.mono Bx12.out.size)
  have Sx13 : Hid (x12.heap.size ≤ x13.heap.size) := bx13.size
  clear Bx12
  clear bx13
  go_wp2_with fail
  refine (eqByteS _ _ mh ch mw cw r r _ Eh.out Ew.out Nx13.out.rd Rx13w.out.rd (by have := HPL.out; omega) (by have := HPL.out; omega)).mono ?_
  rintro e x14 ⟨rfl, mx14, dx14⟩
  have bx14 : Below x13.heap.size x13 x14 := by rw [dx14]; exact below_drewN (Below.refl _ _) _
  clear dx14
  have Rx14w : Hid (Row x14 gw cw r) := Rx13w.out.later bx14
  clear Rx13w
  have Rx14x : Hid (Row x14 x2.heap.size len (marks 1 len)) := Rx13x.out.later bx14
  clear Rx13x
  have Rx14g : Hid (Row x14 gg cg (marks 1 mg)) := Rx13g.out.later bx14
  clear Rx13g
  have Rx14t3 : Hid (Row x14 x10.heap.size len l) := Rx13t3.out.later bx14
  clear Rx13t3
  have Rx14h : Hid (Row x14 gh ch r) := Nx13.out.later bx14
  clear Nx13
  have Bx14 : Hid (Below w.heap.size w x14) := Bx13.out.trans (bx14.mono Bx13.out.size)
  have Sx14 : Hid (x13.heap.size ≤ x14.heap.size) := bx14.size
  clear Bx13
  clear bx14
  go_wp2_with fail
  refine (heldByteS _ cg mg 1 _ Rx14g.out.rd (by omega) (by omega) (by omega)).mono ?_
  rintro e x15 ⟨rfl, rfl⟩
  go_wp2
  go_ret
  exact ⟨rfl, Bx14.out⟩

theorem walk (a : Option Addr) (len cap : Nat) (z : List Int) (i k : Int) (w : World) (h : IsRow .u8 w a len cap z) (hi : i ≤ 9223372036854775807) :
    Calls Try.prog 10 #[.slice a len cap, .int .i64 i, .int .i64 k] w fun e w' => e = .returned (.bool true) ∧ Below w.heap.size w w' := by
  obtain ⟨l, h1, h2, _, _⟩ := h.read
  by_cases hl : len ≤ 1048576
  · exact small a len cap l i k w h1 h2 hl hi
  · have hl' : (1048576 : Int) < (len : Int) := by omega
    clear h h1 h2 hl hi
    go_enter Try.func10, Try.ntmps10
    go_wp2
    go_ret
    exact ⟨rfl, Below.refl _ _⟩
end Go.Proofs.Ytdfjpmldcbbmkaa.LawCut
