/-
  laws.FnExactChain answers true at every slice of bytes and every int, where the table of round words holds what the program's text lays into it; nothing that was there is written into.
-/
import Derived.Test.YthbaehkdlndgdaaDoorKdfI
import Derived.Test.YthbaehkdlndgdaaDoorKdfS
namespace Go.Proofs.YthbaehkdlndgdaaDoor.LawChain
open Go.RowKit Go.Proofs.YthbaehkdlndgdaaDoor.Mem Go.Proofs.YthbaehkdlndgdaaDoor.MemI Go.Proofs.YthbaehkdlndgdaaDoor.Blk Go.Proofs.YthbaehkdlndgdaaDoor.App Go.Proofs.YthbaehkdlndgdaaDoor.Get Go.Proofs.YthbaehkdlndgdaaDoor.ShaP Go.Proofs.YthbaehkdlndgdaaDoor.Word Go.Proofs.YthbaehkdlndgdaaDoor.Bits Go.Proofs.YthbaehkdlndgdaaDoor.Comp Go.Proofs.YthbaehkdlndgdaaDoor.MacP Go.Proofs.YthbaehkdlndgdaaDoor.KdfP Go.Proofs.YthbaehkdlndgdaaDoor.Str Go.Proofs.YthbaehkdlndgdaaDoor.KdfI Go.Proofs.YthbaehkdlndgdaaDoor.KdfS

set_option maxRecDepth 100000 in
set_option maxHeartbeats 1600000 in
theorem small (ak : Option Addr) (nk ck : Nat) (lk : List Int) (n : Int) (w : World) (hT : Tab w) (hlk : nk = lk.length) (hrk : Rd w ak lk) (hbk : Bytes lk) (hzk : nk ≤ 1048576) :
    Calls Tryd.prog 8 #[.slice ak nk ck, .int .i64 n] w fun e w' => e = .returned (.bool true) ∧ Below w.heap.size w w' := by
  have HLk : Hid (nk = lk.length) := hlk
  have HRk : Hid (Rd w ak lk) := hrk
  have HYk : Hid (Bytes lk) := hbk
  have HT : Hid (Tab w) := hT
  obtain ⟨r, hr⟩ : ∃ r, chnI lk n = r := ⟨_, rfl⟩
  have HPL : Hid (r.length ≤ 1048576) := by rw [← hr]; exact (show (chnI lk n).length ≤ 1048576 by have := chnI_most lk n; omega)
  have HO : Hid (chnI lk n = r) := hr
  clear hr hT hlk hrk hbk
  have hqk : lk.length ≤ 1048576 := by rw [← HLk.out]; exact hzk
  go_enter Tryd.func8, Tryd.ntmps8
  go_wp2_with fail
  refine (toByteS ak nk ck lk _ HLk.out HRk.out (by omega)).mono ?_
  rintro e x1 ⟨rfl, rx1, bx1⟩
  have Nx1 : Hid (Row x1 w.heap.size nk lk) := rx1
  clear rx1
  have GEsk : Hid (w.heap.size ≤ w.heap.size) := (Nat.le_refl _)
  have Bx1 : Hid (Below w.heap.size w x1) := bx1
  clear bx1
  go_wp2_with fail
  refine (specChain _ nk nk lk n _  HLk.out Nx1.out.rd (by intro e; cases e) HYk.out (by omega)).mono ?_
  rw [HO.out]
  rintro e x2 ⟨gw, mw, cw, rfl, ex2, hx2, rx2, bx2⟩
  have Ew : Hid (mw = r.length) := ex2
  have Nx2 : Hid (Row x2 gw cw r) := rx2
  have NEskw : Hid (w.heap.size ≠ gw) := Nat.ne_of_lt (Nat.lt_of_lt_of_le Nx1.out.lt hx2)
  have GEw : Hid (w.heap.size ≤ gw) := Nat.le_trans Bx1.out.size hx2
  clear ex2 rx2 hx2
  have Rx2sk : Hid (Row x2 w.heap.size nk lk) := Nx1.out.later bx2
  clear Nx1
  have Bx2 : Hid (Below w.heap.size w x2) := Bx1.out.trans (bx2.mono Bx1.out.size)
  clear Bx1
  clear bx2
  have hmw : mw ≤ 1048576 := by rw [Ew.out]; exact HPL.out
  clear Rx2sk
  go_wp2_with fail
  refine (toByteS ak nk ck lk _ HLk.out (HRk.out.later Bx2.out (Nat.le_refl _)) (by omega)).mono ?_
  rintro e x3 ⟨rfl, rx3, bx3⟩
  have Nx3 : Hid (Row x3 x2.heap.size nk lk) := rx3
  clear rx3
  have NEwxk : Hid (gw ≠ x2.heap.size) := Nat.ne_of_lt (Nat.lt_of_lt_of_le Nx2.out.lt (Nat.le_refl _))
  have GExk : Hid (w.heap.size ≤ x2.heap.size) := Nat.le_trans Bx2.out.size (Nat.le_refl _)
  have Rx3w : Hid (Row x3 gw cw r) := Nx2.out.later bx3
  clear Nx2
  have Bx3 : Hid (Below w.heap.size w x3) := Bx2.out.trans (bx3.mono Bx2.out.size)
  clear Bx2
  clear bx3
  go_wp2_with fail
  refine (implChain _ nk nk lk n _ (HT.out.later Bx3.out) HLk.out Nx3.out.rd (by intro e; cases e) HYk.out (by omega)).mono ?_
  rw [HO.out]
  rintro e x4 ⟨gg, mg, cg, rfl, ex4, hx4, rx4, bx4⟩
  have Eg : Hid (mg = r.length) := ex4
  have Nx4 : Hid (Row x4 gg cg r) := rx4
  have NEwg : Hid (gw ≠ gg) := Nat.ne_of_lt (Nat.lt_of_lt_of_le Rx3w.out.lt hx4)
  have NExkg : Hid (x2.heap.size ≠ gg) := Nat.ne_of_lt (Nat.lt_of_lt_of_le Nx3.out.lt hx4)
  have GEg : Hid (w.heap.size ≤ gg) := Nat.le_trans Bx3.out.size hx4
  clear ex4 rx4 hx4
  have Rx4w : Hid (Row x4 gw cw r) := Rx3w.out.later bx4
  clear Rx3w
  have Rx4xk : Hid (Row x4 x2.heap.size nk lk) := Nx3.out.later bx4
  clear Nx3
  have Bx4 : Hid (Below w.heap.size w x4) := Bx3.out.trans (bx4.mono Bx3.out.size)
  clear Bx3
  clear bx4
  have hmg : mg ≤ 1048576 := by rw [Eg.out]; exact HPL.out
  go_wp2_with fail
  refine (eqByteS _ _ mg cg mw cw r r _ Eg.out Ew.out Nx4.out.rd Rx4w.out.rd (by rw [← Eg.out]; omega) (by rw [← Ew.out]; omega)).mono ?_
  rintro e x5 ⟨rfl, mx5, dx5⟩
  have bx5 : Below x4.heap.size x4 x5 := by rw [dx5]; exact below_drewN (Below.refl _ _) _
  clear dx5
  have Rx5w : Hid (Row x5 gw cw r) := Rx4w.out.later bx5
  clear Rx4w
  have Rx5xk : Hid (Row x5 x2.heap.size nk lk) := Rx4xk.out.later bx5
  clear Rx4xk
  have Rx5g : Hid (Row x5 gg cg r) := Nx4.out.later bx5
  clear Nx4
  have Bx5 : Hid (Below w.heap.size w x5) := Bx4.out.trans (bx5.mono Bx4.out.size)
  clear Bx4
  clear bx5
  go_wp2_with fail
  refine (toByteS ak nk ck lk _ HLk.out (HRk.out.later Bx5.out (Nat.le_refl _)) (by omega)).mono ?_
  rintro e x6 ⟨rfl, rx6, bx6⟩
  have Nx6 : Hid (Row x6 x5.heap.size nk lk) := rx6
  clear rx6
  have NEwtk : Hid (gw ≠ x5.heap.size) := Nat.ne_of_lt (Nat.lt_of_lt_of_le Rx5w.out.lt (Nat.le_refl _))
  have NExktk : Hid (x2.heap.size ≠ x5.heap.size) := Nat.ne_of_lt (Nat.lt_of_lt_of_le Rx5xk.out.lt (Nat.le_refl _))
  have NEgtk : Hid (gg ≠ x5.heap.size) := Nat.ne_of_lt (Nat.lt_of_lt_of_le Rx5g.out.lt (Nat.le_refl _))
  have GEtk : Hid (w.heap.size ≤ x5.heap.size) := Nat.le_trans Bx5.out.size (Nat.le_refl _)
  have Rx6w : Hid (Row x6 gw cw r) := Rx5w.out.later bx6
  clear Rx5w
  have Rx6xk : Hid (Row x6 x2.heap.size nk lk) := Rx5xk.out.later bx6
  clear Rx5xk
  have Rx6g : Hid (Row x6 gg cg r) := Rx5g.out.later bx6
  clear Rx5g
  have Bx6 : Hid (Below w.heap.size w x6) := Bx5.out.trans (bx6.mono Bx5.out.size)
  clear Bx5
  clear bx6
  go_wp2_with fail
  refine (eqByteS _ _ nk nk nk nk lk lk _ HLk.out HLk.out Rx6xk.out.rd Nx6.out.rd (by omega) (by omega)).mono ?_
  rintro e x7 ⟨rfl, mx7, dx7⟩
  have bx7 : Below x6.heap.size x6 x7 := by rw [dx7]; exact below_drewN (Below.refl _ _) _
  clear dx7
  have Rx7w : Hid (Row x7 gw cw r) := Rx6w.out.later bx7
  clear Rx6w
  have Rx7xk : Hid (Row x7 x2.heap.size nk lk) := Rx6xk.out.later bx7
  clear Rx6xk
  have Rx7g : Hid (Row x7 gg cg r) := Rx6g.out.later bx7
  clear Rx6g
  have Rx7tk : Hid (Row x7 x5.heap.size nk lk) := Nx6.out.later bx7
  clear Nx6
  have Bx7 : Hid (Below w.heap.size w x7) := Bx6.out.trans (bx7.mono Bx6.out.size)
  clear Bx6
  clear bx7
  clear Rx7tk
  go_wp2_with fail
  refine (markByteS x2.heap.size nk nk lk 1 _ HLk.out Rx7xk.out (by omega) (by omega) (by omega)).mono ?_
  rintro e x8 ⟨rfl, rx8, qx8⟩
  have Nx8 : Hid (Row x8 x2.heap.size nk (marks 1 nk)) := rx8
  clear rx8
  clear Rx7xk
  have Rx8w : Hid (Row x8 gw cw r) := Rx7w.out.keep (qx8.block _ Rx7w.out.lt (by simp only [ne_eq, Option.some.injEq]; exact NEwxk.out))
  clear Rx7w
  have Rx8g : Hid (Row x8 gg cg r) := Rx7g.out.keep (qx8.block _ Rx7g.out.lt (by simp only [ne_eq, Option.some.injEq]; exact (Ne.symm NExkg.out)))
  clear Rx7g
  have Bx8 : Hid (Below w.heap.size w x8) := Bx7.out.grown qx8 Bx7.out.size (fun k h => by cases h; exact GExk.out)
  clear Bx7 qx8
  go_wp2_with fail
  refine (eqByteS _ _ mg cg mw cw r r _ Eg.out Ew.out Rx8g.out.rd Rx8w.out.rd (by rw [← Eg.out]; omega) (by rw [← Ew.out]; omega)).mono ?_
  rintro e x9 ⟨rfl, mx9, dx9⟩
  have bx9 : Below x8.heap.size x8 x9 := by rw [dx9]; exact below_drewN (Below.refl _ _) _
  clear dx9
  have Rx9w : Hid (Row x9 gw cw r) := Rx8w.out.later bx9
  clear Rx8w
  have Rx9g : Hid (Row x9 gg cg r) := Rx8g.out.later bx9
  clear Rx8g
  have Rx9xk : Hid (Row x9 x2.heap.size nk (marks 1 nk)) := Nx8.out.later bx9
  clear Nx8
  have Bx9 : Hid (Below w.heap.size w x9) := Bx8.out.trans (bx9.mono Bx8.out.size)
  clear Bx8
  clear bx9
  go_wp2_with fail
  refine (markByteS gg mg cg r 1 _ Eg.out Rx9g.out (by rw [← Eg.out]; omega) (by omega) (by omega)).mono ?_
  rintro e x10 ⟨rfl, rx10, qx10⟩
  have Nx10 : Hid (Row x10 gg cg (marks 1 mg)) := rx10
  clear rx10
  clear Rx9g
  have Rx10w : Hid (Row x10 gw cw r) := Rx9w.out.keep (qx10.block _ Rx9w.out.lt (by simp only [ne_eq, Option.some.injEq]; exact NEwg.out))
  clear Rx9w
  have Rx10xk : Hid (Row x10 x2.heap.size nk (marks 1 nk)) := Rx9xk.out.keep (qx10.block _ Rx9xk.out.lt (by simp only [ne_eq, Option.some.injEq]; exact NExkg.out))
  clear Rx9xk
  have Bx10 : Hid (Below w.heap.size w x10) := Bx9.out.grown qx10 Bx9.out.size (fun k h => by cases h; exact GEg.out)
  clear Bx9 qx10
  go_wp2_with fail
  refine (heldByteS _ cg mg 1 _ Nx10.out.rd (by omega) (by omega) (by omega)).mono ?_
  rintro e x11 ⟨rfl, rfl⟩
  go_wp2_with fail
  refine (toByteS ak nk ck lk _ HLk.out (HRk.out.later Bx10.out (Nat.le_refl _)) (by omega)).mono ?_
  rintro e x12 ⟨rfl, rx12, bx12⟩
  have Nx12 : Hid (Row x12 x10.heap.size nk lk) := rx12
  clear rx12
  have NEwhk : Hid (gw ≠ x10.heap.size) := Nat.ne_of_lt (Nat.lt_of_lt_of_le Rx10w.out.lt (Nat.le_refl _))
  have NExkhk : Hid (x2.heap.size ≠ x10.heap.size) := Nat.ne_of_lt (Nat.lt_of_lt_of_le Rx10xk.out.lt (Nat.le_refl _))
  have NEghk : Hid (gg ≠ x10.heap.size) := Nat.ne_of_lt (Nat.lt_of_lt_of_le Nx10.out.lt (Nat.le_refl _))
  have GEhk : Hid (w.heap.size ≤ x10.heap.size) := Nat.le_trans Bx10.out.size (Nat.le_refl _)
  have Rx12w : Hid (Row x12 gw cw r) := Rx10w.out.later bx12
  clear Rx10w
  have Rx12xk : Hid (Row x12 x2.heap.size nk (marks 1 nk)) := Rx10xk.out.later bx12
  clear Rx10xk
  have Rx12g : Hid (Row x12 gg cg (marks 1 mg)) := Nx10.out.later bx12
  clear Nx10
  have Bx12 : Hid (Below w.heap.size w x12) := Bx10.out.trans (bx12.mono Bx10.out.size)
  clear Bx10
  clear bx12
  go_wp2_with fail
  refine (implChain _ nk nk lk n _ (HT.out.later Bx12.out) HLk.out Nx12.out.rd (by intro e; cases e) HYk.out (by omega)).mono ?_
  rw [HO.out]
  rintro e x13 ⟨gh, mh, ch, rfl, ex13, hx13, rx13, bx13⟩
  have Eh : Hid (mh = r.length) := ex13
  have Nx13 : Hid (Row x13 gh ch r) := rx13
  have NEwh : Hid (gw ≠ gh) := Nat.ne_of_lt (Nat.lt_of_lt_of_le Rx12w.out.lt hx13)
  have NExkh : Hid (x2.heap.size ≠ gh) := Nat.ne_of_lt (Nat.lt_of_lt_of_le Rx12xk.out.lt hx13)
  have NEgh : Hid (gg ≠ gh) := Nat.ne_of_lt (Nat.lt_of_lt_of_le Rx12g.out.lt hx13)
  have NEhkh : Hid (x10.heap.size ≠ gh) := Nat.ne_of_lt (Nat.lt_of_lt_of_le Nx12.out.lt hx13)
  have GEh : Hid (w.heap.size ≤ gh) := Nat.le_trans Bx12.out.size hx13
  clear ex13 rx13 hx13
  have Rx13w : Hid (Row x13 gw cw r) := Rx12w.out.later bx13
  clear Rx12w
  have Rx13xk : Hid (Row x13 x2.heap.size nk (marks 1 nk)) := Rx12xk.out.later bx13
  clear Rx12xk
  have Rx13g : Hid (Row x13 gg cg (marks 1 mg)) := Rx12g.out.later bx13
  clear Rx12g
  have Rx13hk : Hid (Row x13 x10.heap.size nk lk) := Nx12.out.later bx13
  clear Nx12
  have Bx13 : Hid (Below w.heap.size w x13) := Bx12.out.trans (bx13.mono Bx12.out.size)
  clear Bx12
  clear bx13
  have hmh : mh ≤ 1048576 := by rw [Eh.out]; exact HPL.out
  go_wp2_with fail
  refine (eqByteS _ _ mh ch mw cw r r _ Eh.out Ew.out Nx13.out.rd Rx13w.out.rd (by rw [← Eh.out]; omega) (by rw [← Ew.out]; omega)).mono ?_
  rintro e x14 ⟨rfl, mx14, dx14⟩
  have bx14 : Below x13.heap.size x13 x14 := by rw [dx14]; exact below_drewN (Below.refl _ _) _
  clear dx14
  have Rx14w : Hid (Row x14 gw cw r) := Rx13w.out.later bx14
  clear Rx13w
  have Rx14xk : Hid (Row x14 x2.heap.size nk (marks 1 nk)) := Rx13xk.out.later bx14
  clear Rx13xk
  have Rx14g : Hid (Row x14 gg cg (marks 1 mg)) := Rx13g.out.later bx14
  clear Rx13g
  have Rx14hk : Hid (Row x14 x10.heap.size nk lk) := Rx13hk.out.later bx14
  clear Rx13hk
  have Rx14h : Hid (Row x14 gh ch r) := Nx13.out.later bx14
  clear Nx13
  have Bx14 : Hid (Below w.heap.size w x14) := Bx13.out.trans (bx14.mono Bx13.out.size)
  clear Bx13
  clear bx14
  go_wp2_with fail
  refine (heldByteS _ cg mg 1 _ Rx14g.out.rd (by omega) (by omega) (by omega)).mono ?_
  rintro e x15 ⟨rfl, rfl⟩
  go_wp2
  go_ret
  exact ⟨rfl, Bx14.out⟩

theorem walk (ak : Option Addr) (nk ck : Nat) (zk : List Int) (n : Int) (w : World) (hT : Tab w) (hk : IsRow .u8 w ak nk ck zk) :
    Calls Tryd.prog 8 #[.slice ak nk ck, .int .i64 n] w fun e w' => e = .returned (.bool true) ∧ Below w.heap.size w w' := by
  obtain ⟨lk, hlk, hrk, _, hbk⟩ := hk.read
  by_cases hzk : nk ≤ 1048576
  · skip
    exact small ak nk ck lk n w hT hlk hrk hbk hzk
  · have hgk : (1048576 : Int) < (nk : Int) := by omega
    clear hk hlk hrk hbk hzk
    go_enter Tryd.func8, Tryd.ntmps8
    go_wp2
    go_ret
    exact ⟨rfl, Below.refl _ _⟩
end Go.Proofs.YthbaehkdlndgdaaDoor.LawChain
