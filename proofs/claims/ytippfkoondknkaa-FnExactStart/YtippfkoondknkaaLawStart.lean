/-
  laws.FnExactStart answers true; nothing that was there is written into.
-/
import Derived.Test.YtippfkoondknkaaStart
namespace Go.Proofs.Ytippfkoondknkaa.LawStart
open Go.RowKit Go.Proofs.Ytippfkoondknkaa.Mem Go.Proofs.Ytippfkoondknkaa.MemI Go.Proofs.Ytippfkoondknkaa.Blk Go.Proofs.Ytippfkoondknkaa.App Go.Proofs.Ytippfkoondknkaa.Get Go.Proofs.Ytippfkoondknkaa.ShaP Go.Proofs.Ytippfkoondknkaa.Word Go.Proofs.Ytippfkoondknkaa.Bits Go.Proofs.Ytippfkoondknkaa.Start

set_option maxHeartbeats 1600000 in
theorem small  (w : World)  :
    Calls Try.prog 5 #[] w fun e w' => e = .returned (.bool true) ∧ Below w.heap.size w w' := by
  obtain ⟨r, hr⟩ : ∃ r, start8 = r := ⟨_, rfl⟩
  have HPL : Hid (r.length ≤ 1048576) := by rw [← hr]; exact (show start8.length ≤ 1048576 by decide)
  have HO : Hid (start8 = r) := hr
  clear hr
  go_enter Try.func5, Try.ntmps5
  go_wp2_with fail
  refine (specStartR _).mono ?_
  rw [HO.out]
  rintro e x1 ⟨gw, mw, cw, rfl, ex1, hx1, rx1, bx1⟩
  have Ew : Hid (mw = r.length) := ex1
  have Nx1 : Hid (IRow x1 gw cw r) := rx1
  have GEw : Hid (w.heap.size ≤ gw) := hx1
  clear ex1 rx1 hx1
  have Bx1 : Hid (Below w.heap.size w x1) := bx1
  clear bx1
  have hmw : mw ≤ 1048576 := by rw [Ew.out]; exact HPL.out
  go_wp2_with fail
  refine (implStartR _).mono ?_
  rw [HO.out]
  rintro e x2 ⟨gg, mg, cg, rfl, ex2, hx2, rx2, bx2⟩
  have Eg : Hid (mg = r.length) := ex2
  have Nx2 : Hid (IRow x2 gg cg r) := rx2
  have NEwg : Hid (gw ≠ gg) := Nat.ne_of_lt (Nat.lt_of_lt_of_le Nx1.out.lt hx2)
  have GEg : Hid (w.heap.size ≤ gg) := Nat.le_trans Bx1.out.size hx2
  clear ex2 rx2 hx2
  have Rx2w : Hid (IRow x2 gw cw r) := Nx1.out.later bx2
  clear Nx1
  have Bx2 : Hid (Below w.heap.size w x2) := Bx1.out.trans (bx2.mono Bx1.out.size)
  clear Bx1
  clear bx2
  have hmg : mg ≤ 1048576 := by rw [Eg.out]; exact HPL.out
  go_wp2_with fail
  refine (eqIntS _ _ mg cg mw cw r r _ Eg.out Ew.out Nx2.out.rd Rx2w.out.rd (by rw [← Eg.out]; omega) (by rw [← Ew.out]; omega)).mono ?_
  rintro e x3 ⟨rfl, mx3, dx3⟩
  have bx3 : Below x2.heap.size x2 x3 := by rw [dx3]; exact below_drewN (Below.refl _ _) _
  clear dx3
  have Rx3w : Hid (IRow x3 gw cw r) := Rx2w.out.later bx3
  clear Rx2w
  have Rx3g : Hid (IRow x3 gg cg r) := Nx2.out.later bx3
  clear Nx2
  have Bx3 : Hid (Below w.heap.size w x3) := Bx2.out.trans (bx3.mono Bx2.out.size)
  clear Bx2
  clear bx3
  go_wp2_with fail
  refine (markIntS gg mg cg r 1 _ Eg.out Rx3g.out (by rw [← Eg.out]; omega) (by omega) (by omega)).mono ?_
  rintro e x4 ⟨rfl, rx4, qx4⟩
  have Nx4 : Hid (IRow x4 gg cg (imarks 1 mg)) := rx4
  clear rx4
  clear Rx3g
  have Rx4w : Hid (IRow x4 gw cw r) := Rx3w.out.keep (qx4.block _ Rx3w.out.lt (by simp only [ne_eq, Option.some.injEq]; exact NEwg.out))
  clear Rx3w
  have Bx4 : Hid (Below w.heap.size w x4) := Bx3.out.grown qx4 Bx3.out.size (fun k h => by cases h; exact GEg.out)
  clear Bx3 qx4
  go_wp2_with fail
  refine (heldIntS _ cg mg 1 _ Nx4.out.rd (by omega) (by omega) (by omega)).mono ?_
  rintro e x5 ⟨rfl, rfl⟩
  go_wp2_with fail
  refine (implStartR _).mono ?_
  rw [HO.out]
  rintro e x6 ⟨gh, mh, ch, rfl, ex6, hx6, rx6, bx6⟩
  have Eh : Hid (mh = r.length) := ex6
  have Nx6 : Hid (IRow x6 gh ch r) := rx6
  have NEwh : Hid (gw ≠ gh) := Nat.ne_of_lt (Nat.lt_of_lt_of_le Rx4w.out.lt hx6)
  have NEgh : Hid (gg ≠ gh) := Nat.ne_of_lt (Nat.lt_of_lt_of_le Nx4.out.lt hx6)
  have GEh : Hid (w.heap.size ≤ gh) := Nat.le_trans Bx4.out.size hx6
  clear ex6 rx6 hx6
  have Rx6w : Hid (IRow x6 gw cw r) := Rx4w.out.later bx6
  clear Rx4w
  have Rx6g : Hid (IRow x6 gg cg (imarks 1 mg)) := Nx4.out.later bx6
  clear Nx4
  have Bx6 : Hid (Below w.heap.size w x6) := Bx4.out.trans (bx6.mono Bx4.out.size)
  clear Bx4
  clear bx6
  have hmh : mh ≤ 1048576 := by rw [Eh.out]; exact HPL.out
  go_wp2_with fail
  refine (eqIntS _ _ mh ch mw cw r r _ Eh.out Ew.out Nx6.out.rd Rx6w.out.rd (by rw [← Eh.out]; omega) (by rw [← Ew.out]; omega)).mono ?_
  rintro e x7 ⟨rfl, mx7, dx7⟩
  have bx7 : Below x6.heap.size x6 x7 := by rw [dx7]; exact below_drewN (Below.refl _ _) _
  clear dx7
  have Rx7w : Hid (IRow x7 gw cw r) := Rx6w.out.later bx7
  clear Rx6w
  have Rx7g : Hid (IRow x7 gg cg (imarks 1 mg)) := Rx6g.out.later bx7
  clear Rx6g
  have Rx7h : Hid (IRow x7 gh ch r) := Nx6.out.later bx7
  clear Nx6
  have Bx7 : Hid (Below w.heap.size w x7) := Bx6.out.trans (bx7.mono Bx6.out.size)
  clear Bx6
  clear bx7
  go_wp2_with fail
  refine (heldIntS _ cg mg 1 _ Rx7g.out.rd (by omega) (by omega) (by omega)).mono ?_
  rintro e x8 ⟨rfl, rfl⟩
  go_wp2
  go_ret
  exact ⟨rfl, Bx7.out⟩

theorem walk  (w : World)  :
    Calls Try.prog 5 #[] w fun e w' => e = .returned (.bool true) ∧ Below w.heap.size w w' := by
  exact small  w 
end Go.Proofs.Ytippfkoondknkaa.LawStart
