/-
  The walk of the law FnExactParseHex: at every string it answers true, and nothing that was there is written.
-/
import Derived.Test.YtdfjpmldcbbmkaaParseI
namespace Go.Proofs.Ytdfjpmldcbbmkaa.LawParseHex
open Go.RowKit Go.Proofs.Ytdfjpmldcbbmkaa.Mem Go.Proofs.Ytdfjpmldcbbmkaa.App Go.Proofs.Ytdfjpmldcbbmkaa.Parse

set_option maxHeartbeats 1600000 in
theorem small (s : ByteArray) (w : World) (hs : s.size ≤ 1048576) :
    Calls Try.prog 12 #[.string s] w fun e w' => e = .returned (.bool true) ∧ Below w.heap.size w w' := by
  have HPL : Hid ((parsed (bs s)).length ≤ 200) := parsed_length _
  generalize hrr : parsed (bs s) = r at *
  have HRR : Hid (parsed (bs s) = r) := hrr
  clear hrr
  generalize ho : good (bs s) = ok at *
  have HO : Hid (good (bs s) = ok) := ho
  clear ho
  go_enter Try.func12, Try.ntmps12
  go_wp2_with fail
  refine (specParseHex s _ hs).mono ?_
  rw [HRR.out, HO.out]
  rintro e x1 ⟨gw, mw, cw, rfl, ex1, hx1, rx1, bx1⟩
  have Ew : Hid (mw = r.length) := ex1
  have Nx1 : Hid (Row x1 gw cw r) := rx1
  clear ex1 rx1
  have Bx1 : Hid (Below w.heap.size w x1) := bx1
  have lwx : gw < x1.heap.size := Nx1.out.lt
  have Sx1 : Hid (w.heap.size ≤ x1.heap.size) := bx1.size
  clear bx1
  go_wp2_with fail
  refine (implParseHex s _ hs).mono ?_
  rw [HRR.out, HO.out]
  rintro e x2 ⟨gg, mg, cg, rfl, ex2, hx2, rx2, bx2⟩
  have Eg : Hid (mg = r.length) := ex2
  have Nx2 : Hid (Row x2 gg cg r) := rx2
  clear ex2 rx2
  have Rx2w : Hid (Row x2 gw cw r) := Nx1.out.later bx2
  clear Nx1
  have Bx2 : Hid (Below w.heap.size w x2) := Bx1.out.trans (bx2.mono Bx1.out.size)
  have Sx2 : Hid (x1.heap.size ≤ x2.heap.size) := bx2.size
  clear Bx1
  clear bx2
  go_wp2_with fail
  refine (eqByteS _ _ mg cg mw cw r r _ Eg.out Ew.out Nx2.out.rd Rx2w.out.rd (by have := HPL.out; omega) (by have := HPL.out; omega)).mono ?_
  rintro e x3 ⟨rfl, mx3, dx3⟩
  have bx3 : Below x2.heap.size x2 x3 := by rw [dx3]; exact below_drewN (Below.refl _ _) _
  clear dx3
  have Rx3w : Hid (Row x3 gw cw r) := Rx2w.out.later bx3
  clear Rx2w
  have Rx3g : Hid (Row x3 gg cg r) := Nx2.out.later bx3
  clear Nx2
  have Bx3 : Hid (Below w.heap.size w x3) := Bx2.out.trans (bx3.mono Bx2.out.size)
  have Sx3 : Hid (x2.heap.size ≤ x3.heap.size) := bx3.size
  clear Bx2
  clear bx3
  have hpl := HPL.out
  have egl := Eg.out
  have sz := Sx1.out
  have lw : gw < x1.heap.size := lwx
  have HG : Hid (mg ≤ 200) := by show mg ≤ 200; omega
  clear hpl egl
  have hmg := HG.out
  go_wp2_with fail
  refine (markByteS gg mg cg r 1 _ Eg.out Rx3g.out (by have := HPL.out; omega) (by omega) (by omega)).mono ?_
  rintro e x4 ⟨rfl, rx4, qx4⟩
  have Nx4 : Hid (Row x4 gg cg (marks 1 mg)) := rx4
  clear rx4
  clear Rx3g
  have Rx4w : Hid (Row x4 gw cw r) := Rx3w.out.keep (qx4.block _ Rx3w.out.lt (by simp only [ne_eq, Option.some.injEq]; omega))
  clear Rx3w
  have Bx4 : Hid (Below w.heap.size w x4) := Bx3.out.grown qx4 Bx3.out.size (fun k h => by cases h; omega)
  clear Bx3 qx4
  go_wp2_with fail
  refine (heldByteS _ cg mg 1 _ Nx4.out.rd (by omega) (by omega) (by omega)).mono ?_
  rintro e x5 ⟨rfl, rfl⟩
  go_wp2_with fail
  refine (implParseHex s _ hs).mono ?_
  rw [HRR.out, HO.out]
  rintro e x6 ⟨gh, mh, ch, rfl, ex6, hx6, rx6, bx6⟩
  have Eh : Hid (mh = r.length) := ex6
  have Nx6 : Hid (Row x6 gh ch r) := rx6
  clear ex6 rx6
  have Rx6w : Hid (Row x6 gw cw r) := Rx4w.out.later bx6
  clear Rx4w
  have Rx6g : Hid (Row x6 gg cg (marks 1 mg)) := Nx4.out.later bx6
  clear Nx4
  have Bx6 : Hid (Below w.heap.size w x6) := Bx4.out.trans (bx6.mono Bx4.out.size)
  have Sx6 : Hid (x4.heap.size ≤ x6.heap.size) := bx6.size
  clear Bx4
  clear bx6
  go_wp2_with fail
  refine (eqByteS _ _ mh ch mw cw r r _ Eh.out Ew.out Nx6.out.rd Rx6w.out.rd (by have := HPL.out; omega) (by have := HPL.out; omega)).mono ?_
  rintro e x7 ⟨rfl, mx7, dx7⟩
  have bx7 : Below x6.heap.size x6 x7 := by rw [dx7]; exact below_drewN (Below.refl _ _) _
  clear dx7
  have Rx7w : Hid (Row x7 gw cw r) := Rx6w.out.later bx7
  clear Rx6w
  have Rx7g : Hid (Row x7 gg cg (marks 1 mg)) := Rx6g.out.later bx7
  clear Rx6g
  have Rx7h : Hid (Row x7 gh ch r) := Nx6.out.later bx7
  clear Nx6
  have Bx7 : Hid (Below w.heap.size w x7) := Bx6.out.trans (bx7.mono Bx6.out.size)
  have Sx7 : Hid (x6.heap.size ≤ x7.heap.size) := bx7.size
  clear Bx6
  clear bx7
  go_wp2_with fail
  refine (heldByteS _ cg mg 1 _ Rx7g.out.rd (by omega) (by omega) (by omega)).mono ?_
  rintro e x8 ⟨rfl, rfl⟩
  go_wp2
  go_ret
  exact ⟨rfl, Bx7.out⟩

theorem walk (s : ByteArray) (w : World) :
    Calls Try.prog 12 #[.string s] w fun e w' => e = .returned (.bool true) ∧ Below w.heap.size w w' := by
  by_cases hl : s.size ≤ 1048576
  · exact small s w hl
  · have hl' : (1048576 : Int) < (s.size : Int) := by omega
    clear hl
    go_enter Try.func12, Try.ntmps12
    go_wp2
    go_ret
    exact ⟨rfl, Below.refl _ _⟩
end Go.Proofs.Ytdfjpmldcbbmkaa.LawParseHex
