/-
  laws.FnExactStream answers true at every two slices of bytes and every int, where the table of round words holds what the program's text lays into it; nothing that was there is written into.
-/
import Derived.Test.YtppckomiobablaaDoorStrI
import Derived.Test.YtppckomiobablaaDoorStrS
namespace Go.Proofs.YtppckomiobablaaDoor.LawStream
open Go.RowKit Go.Proofs.YtppckomiobablaaDoor.Mem Go.Proofs.YtppckomiobablaaDoor.MemI Go.Proofs.YtppckomiobablaaDoor.Blk Go.Proofs.YtppckomiobablaaDoor.App Go.Proofs.YtppckomiobablaaDoor.Get Go.Proofs.YtppckomiobablaaDoor.ShaP Go.Proofs.YtppckomiobablaaDoor.Word Go.Proofs.YtppckomiobablaaDoor.Bits Go.Proofs.YtppckomiobablaaDoor.Comp Go.Proofs.YtppckomiobablaaDoor.MacP Go.Proofs.YtppckomiobablaaDoor.KdfP Go.Proofs.YtppckomiobablaaDoor.StrI Go.Proofs.YtppckomiobablaaDoor.StrS

set_option maxRecDepth 100000 in
set_option maxHeartbeats 1600000 in
theorem small (ak : Option Addr) (nk ck : Nat) (lk : List Int) (ah : Option Addr) (nh ch : Nat) (lh : List Int) (n : Int) (w : World) (hT : Tab w) (hlk : nk = lk.length) (hrk : Rd w ak lk) (hbk : Bytes lk) (hzk : nk ≤ 1048576) (hlh : nh = lh.length) (hrh : Rd w ah lh) (hbh : Bytes lh) (hzh : nh ≤ 1048576) :
    Calls Tryd.prog 6 #[.slice ak nk ck, .slice ah nh ch, .int .i64 n] w fun e w' => e = .returned (.bool true) ∧ Below w.heap.size w w' := by
  have HLk : Hid (nk = lk.length) := hlk
  have HRk : Hid (Rd w ak lk) := hrk
  have HYk : Hid (Bytes lk) := hbk
  have HLh : Hid (nh = lh.length) := hlh
  have HRh : Hid (Rd w ah lh) := hrh
  have HYh : Hid (Bytes lh) := hbh
  have HT : Hid (Tab w) := hT
  obtain ⟨r, hr⟩ : ∃ r, strI lk lh n = r := ⟨_, rfl⟩
  have HPL : Hid (r.length ≤ 1048576) := by rw [← hr]; exact (Nat.le_trans (strI_le lk lh n) (by omega))
  have HO : Hid (strI lk lh n = r) := hr
  clear hr hT hlk hrk hbk hlh hrh hbh
  have hqk : lk.length ≤ 1048576 := by rw [← HLk.out]; exact hzk
  have hqh : lh.length ≤ 1048576 := by rw [← HLh.out]; exact hzh
  go_enter Tryd.func6, Tryd.ntmps6
  go_wp2_with fail
  refine (toByteS ak nk ck lk _ HLk.out HRk.out (by omega)).mono ?_
  rintro e x1 ⟨rfl, rx1, bx1⟩
  have Nx1 : Hid (Row x1 w.heap.size nk lk) := rx1
  clear rx1
  have GEsk : Hid (w.heap.size ≤ w.heap.size) := (Nat.le_refl _)
  have Bx1 : Hid (Below w.heap.size w x1) := bx1
  clear bx1
  go_wp2_with fail
  refine (toByteS ah nh ch lh _ HLh.out (HRh.out.later Bx1.out (Nat.le_refl _)) (by omega)).mono ?_
  rintro e x2 ⟨rfl, rx2, bx2⟩
  have Nx2 : Hid (Row x2 x1.heap.size nh lh) := rx2
  clear rx2
  have NEsksh : Hid (w.heap.size ≠ x1.heap.size) := Nat.ne_of_lt (Nat.lt_of_lt_of_le Nx1.out.lt (Nat.le_refl _))
  have GEsh : Hid (w.heap.size ≤ x1.heap.size) := Nat.le_trans Bx1.out.size (Nat.le_refl _)
  have Rx2sk : Hid (Row x2 w.heap.size nk lk) := Nx1.out.later bx2
  clear Nx1
  have Bx2 : Hid (Below w.heap.size w x2) := Bx1.out.trans (bx2.mono Bx1.out.size)
  clear Bx1
  clear bx2
  go_wp2_with fail
  refine (specStream _ nk nk _ nh nh lk lh n _  HLk.out HLh.out Rx2sk.out.rd Nx2.out.rd (by intro e; cases e) (by intro e; cases e) HYk.out HYh.out (by omega) (by omega)).mono ?_
  rw [HO.out]
  rintro e x3 ⟨gw, mw, cw, rfl, ex3, hx3, rx3, bx3⟩
  have Ew : Hid (mw = r.length) := ex3
  have Nx3 : Hid (Row x3 gw cw r) := rx3
  have NEskw : Hid (w.heap.size ≠ gw) := Nat.ne_of_lt (Nat.lt_of_lt_of_le Rx2sk.out.lt hx3)
  have NEshw : Hid (x1.heap.size ≠ gw) := Nat.ne_of_lt (Nat.lt_of_lt_of_le Nx2.out.lt hx3)
  have GEw : Hid (w.heap.size ≤ gw) := Nat.le_trans Bx2.out.size hx3
  clear ex3 rx3 hx3
  have Rx3sk : Hid (Row x3 w.heap.size nk lk) := Rx2sk.out.later bx3
  clear Rx2sk
  have Rx3sh : Hid (Row x3 x1.heap.size nh lh) := Nx2.out.later bx3
  clear Nx2
  have Bx3 : Hid (Below w.heap.size w x3) := Bx2.out.trans (bx3.mono Bx2.out.size)
  clear Bx2
  clear bx3
  have hmw : mw ≤ 1048576 := by rw [Ew.out]; exact HPL.out
  clear Rx3sk
  clear Rx3sh
  go_wp2_with fail
  refine (toByteS ak nk ck lk _ HLk.out (HRk.out.later Bx3.out (Nat.le_refl _)) (by omega)).mono ?_
  rintro e x4 ⟨rfl, rx4, bx4⟩
  have Nx4 : Hid (Row x4 x3.heap.size nk lk) := rx4
  clear rx4
  have NEwxk : Hid (gw ≠ x3.heap.size) := Nat.ne_of_lt (Nat.lt_of_lt_of_le Nx3.out.lt (Nat.le_refl _))
  have GExk : Hid (w.heap.size ≤ x3.heap.size) := Nat.le_trans Bx3.out.size (Nat.le_refl _)
  have Rx4w : Hid (Row x4 gw cw r) := Nx3.out.later bx4
  clear Nx3
  have Bx4 : Hid (Below w.heap.size w x4) := Bx3.out.trans (bx4.mono Bx3.out.size)
  clear Bx3
  clear bx4
  go_wp2_with fail
  refine (toByteS ah nh ch lh _ HLh.out (HRh.out.later Bx4.out (Nat.le_refl _)) (by omega)).mono ?_
  rintro e x5 ⟨rfl, rx5, bx5⟩
  have Nx5 : Hid (Row x5 x4.heap.size nh lh) := rx5
  clear rx5
  have NEwxh : Hid (gw ≠ x4.heap.size) := Nat.ne_of_lt (Nat.lt_of_lt_of_le Rx4w.out.lt (Nat.le_refl _))
  have NExkxh : Hid (x3.heap.size ≠ x4.heap.size) := Nat.ne_of_lt (Nat.lt_of_lt_of_le Nx4.out.lt (Nat.le_refl _))
  have GExh : Hid (w.heap.size ≤ x4.heap.size) := Nat.le_trans Bx4.out.size (Nat.le_refl _)
  have Rx5w : Hid (Row x5 gw cw r) := Rx4w.out.later bx5
  clear Rx4w
  have Rx5xk : Hid (Row x5 x3.heap.size nk lk) := Nx4.out.later bx5
  clear Nx4
  have Bx5 : Hid (Below w.heap.size w x5) := Bx4.out.trans (bx5.mono Bx4.out.size)
  clear Bx4
  clear bx5
  go_wp2_with fail
  refine (implStream _ nk nk _ nh nh lk lh n _ (HT.out.later Bx5.out) HLk.out HLh.out Rx5xk.out.rd Nx5.out.rd (by intro e; cases e) (by intro e; cases e) HYk.out HYh.out (by omega) (by omega)).mono ?_
  rw [HO.out]
  rintro e x6 ⟨gg, mg, cg, rfl, ex6, hx6, rx6, bx6⟩
  have Eg : Hid (mg = r.length) := ex6
  have Nx6 : Hid (Row x6 gg cg r) := rx6
  have NEwg : Hid (gw ≠ gg) := Nat.ne_of_lt (Nat.lt_of_lt_of_le Rx5w.out.lt hx6)
  have NExkg : Hid (x3.heap.size ≠ gg) := Nat.ne_of_lt (Nat.lt_of_lt_of_le Rx5xk.out.lt hx6)
  have NExhg : Hid (x4.heap.size ≠ gg) := Nat.ne_of_lt (Nat.lt_of_lt_of_le Nx5.out.lt hx6)
  have GEg : Hid (w.heap.size ≤ gg) := Nat.le_trans Bx5.out.size hx6
  clear ex6 rx6 hx6
  have Rx6w : Hid (Row x6 gw cw r) := Rx5w.out.later bx6
  clear Rx5w
  have Rx6xk : Hid (Row x6 x3.heap.size nk lk) := Rx5xk.out.later bx6
  clear Rx5xk
  have Rx6xh : Hid (Row x6 x4.heap.size nh lh) := Nx5.out.later bx6
  clear Nx5
  have Bx6 : Hid (Below w.heap.size w x6) := Bx5.out.trans (bx6.mono Bx5.out.size)
  clear Bx5
  clear bx6
  have hmg : mg ≤ 1048576 := by rw [Eg.out]; exact HPL.out
  go_wp2_with fail
  refine (eqByteS _ _ mg cg mw cw r r _ Eg.out Ew.out Nx6.out.rd Rx6w.out.rd (by rw [← Eg.out]; omega) (by rw [← Ew.out]; omega)).mono ?_
  rintro e x7 ⟨rfl, mx7, dx7⟩
  have bx7 : Below x6.heap.size x6 x7 := by rw [dx7]; exact below_drewN (Below.refl _ _) _
  clear dx7
  have Rx7w : Hid (Row x7 gw cw r) := Rx6w.out.later bx7
  clear Rx6w
  have Rx7xk : Hid (Row x7 x3.heap.size nk lk) := Rx6xk.out.later bx7
  clear Rx6xk
  have Rx7xh : Hid (Row x7 x4.heap.size nh lh) := Rx6xh.out.later bx7
  clear Rx6xh
  have Rx7g : Hid (Row x7 gg cg r) := Nx6.out.later bx7
  clear Nx6
  have Bx7 : Hid (Below w.heap.size w x7) := Bx6.out.trans (bx7.mono Bx6.out.size)
  clear Bx6
  clear bx7
  go_wp2_with fail
  refine (toByteS ak nk ck lk _ HLk.out (HRk.out.later Bx7.out (Nat.le_refl _)) (by omega)).mono ?_
  rintro e x8 ⟨rfl, rx8, bx8⟩
  have Nx8 : Hid (Row x8 x7.heap.size nk lk) := rx8
  clear rx8
  have NEwtk : Hid (gw ≠ x7.heap.size) := Nat.ne_of_lt (Nat.lt_of_lt_of_le Rx7w.out.lt (Nat.le_refl _))
  have NExktk : Hid (x3.heap.size ≠ x7.heap.size) := Nat.ne_of_lt (Nat.lt_of_lt_of_le Rx7xk.out.lt (Nat.le_refl _))
  have NExhtk : Hid (x4.heap.size ≠ x7.heap.size) := Nat.ne_of_lt (Nat.lt_of_lt_of_le Rx7xh.out.lt (Nat.le_refl _))
  have NEgtk : Hid (gg ≠ x7.heap.size) := Nat.ne_of_lt (Nat.lt_of_lt_of_le Rx7g.out.lt (Nat.le_refl _))
  have GEtk : Hid (w.heap.size ≤ x7.heap.size) := Nat.le_trans Bx7.out.size (Nat.le_refl _)
  have Rx8w : Hid (Row x8 gw cw r) := Rx7w.out.later bx8
  clear Rx7w
  have Rx8xk : Hid (Row x8 x3.heap.size nk lk) := Rx7xk.out.later bx8
  clear Rx7xk
  have Rx8xh : Hid (Row x8 x4.heap.size nh lh) := Rx7xh.out.later bx8
  clear Rx7xh
  have Rx8g : Hid (Row x8 gg cg r) := Rx7g.out.later bx8
  clear Rx7g
  have Bx8 : Hid (Below w.heap.size w x8) := Bx7.out.trans (bx8.mono Bx7.out.size)
  clear Bx7
  clear bx8
  go_wp2_with fail
  refine (eqByteS _ _ nk nk nk nk lk lk _ HLk.out HLk.out Rx8xk.out.rd Nx8.out.rd (by omega) (by omega)).mono ?_
  rintro e x9 ⟨rfl, mx9, dx9⟩
  have bx9 : Below x8.heap.size x8 x9 := by rw [dx9]; exact below_drewN (Below.refl _ _) _
  clear dx9
  have Rx9w : Hid (Row x9 gw cw r) := Rx8w.out.later bx9
  clear Rx8w
  have Rx9xk : Hid (Row x9 x3.heap.size nk lk) := Rx8xk.out.later bx9
  clear Rx8xk
  have Rx9xh : Hid (Row x9 x4.heap.size nh lh) := Rx8xh.out.later bx9
  clear Rx8xh
  have Rx9g : Hid (Row x9 gg cg r) := Rx8g.out.later bx9
  clear Rx8g
  have Rx9tk : Hid (Row x9 x7.heap.size nk lk) := Nx8.out.later bx9
  clear Nx8
  have Bx9 : Hid (Below w.heap.size w x9) := Bx8.out.trans (bx9.mono Bx8.out.size)
  clear Bx8
  clear bx9
  clear Rx9tk
  go_wp2_with fail
  refine (toByteS ah nh ch lh _ HLh.out (HRh.out.later Bx9.out (Nat.le_refl _)) (by omega)).mono ?_
  rintro e x10 ⟨rfl, rx10, bx10⟩
  have Nx10 : Hid (Row x10 x9.heap.size nh lh) := rx10
  clear rx10
  have NEwth : Hid (gw ≠ x9.heap.size) := Nat.ne_of_lt (Nat.lt_of_lt_of_le Rx9w.out.lt (Nat.le_refl _))
  have NExkth : Hid (x3.heap.size ≠ x9.heap.size) := Nat.ne_of_lt (Nat.lt_of_lt_of_le Rx9xk.out.lt (Nat.le_refl _))
  have NExhth : Hid (x4.heap.size ≠ x9.heap.size) := Nat.ne_of_lt (Nat.lt_of_lt_of_le Rx9xh.out.lt (Nat.le_refl _))
  have NEgth : Hid (gg ≠ x9.heap.size) := Nat.ne_of_lt (Nat.lt_of_lt_of_le Rx9g.out.lt (Nat.le_refl _))
  have GEth : Hid (w.heap.size ≤ x9.heap.size) := Nat.le_trans Bx9.out.size (Nat.le_refl _)
  have Rx10w : Hid (Row x10 gw cw r) := Rx9w.out.later bx10
  clear Rx9w
  have Rx10xk : Hid (Row x10 x3.heap.size nk lk) := Rx9xk.out.later bx10
  clear Rx9xk
  have Rx10xh : Hid (Row x10 x4.heap.size nh lh) := Rx9xh.out.later bx10
  clear Rx9xh
  have Rx10g : Hid (Row x10 gg cg r) := Rx9g.out.later bx10
  clear Rx9g
  have Bx10 : Hid (Below w.heap.size w x10) := Bx9.out.trans (bx10.mono Bx9.out.size)
  clear Bx9
  clear bx10
  go_wp2_with fail
  refine (eqByteS _ _ nh nh nh nh lh lh _ HLh.out HLh.out Rx10xh.out.rd Nx10.out.rd (by omega) (by omega)).mono ?_
  rintro e x11 ⟨rfl, mx11, dx11⟩
  have bx11 : Below x10.heap.size x10 x11 := by rw [dx11]; exact below_drewN (Below.refl _ _) _
  clear dx11
  have Rx11w : Hid (Row x11 gw cw r) := Rx10w.out.later bx11
  clear Rx10w
  have Rx11xk : Hid (Row x11 x3.heap.size nk lk) := Rx10xk.out.later bx11
  clear Rx10xk
  have Rx11xh : Hid (Row x11 x4.heap.size nh lh) := Rx10xh.out.later bx11
  clear Rx10xh
  have Rx11g : Hid (Row x11 gg cg r) := Rx10g.out.later bx11
  clear Rx10g
  have Rx11th : Hid (Row x11 x9.heap.size nh lh) := Nx10.out.later bx11
  clear Nx10
  have Bx11 : Hid (Below w.heap.size w x11) := Bx10.out.trans (bx11.mono Bx10.out.size)
  clear Bx10
  clear bx11
  clear Rx11th
  go_wp2_with fail
  refine (markByteS x3.heap.size nk nk lk 1 _ HLk.out Rx11xk.out (by omega) (by omega) (by omega)).mono ?_
  rintro e x12 ⟨rfl, rx12, qx12⟩
  have Nx12 : Hid (Row x12 x3.heap.size nk (marks 1 nk)) := rx12
  clear rx12
  clear Rx11xk
  have Rx12w : Hid (Row x12 gw cw r) := Rx11w.out.keep (qx12.block _ Rx11w.out.lt (by simp only [ne_eq, Option.some.injEq]; exact NEwxk.out))
  clear Rx11w
  have Rx12xh : Hid (Row x12 x4.heap.size nh lh) := Rx11xh.out.keep (qx12.block _ Rx11xh.out.lt (by simp only [ne_eq, Option.some.injEq]; exact (Ne.symm NExkxh.out)))
  clear Rx11xh
  have Rx12g : Hid (Row x12 gg cg r) := Rx11g.out.keep (qx12.block _ Rx11g.out.lt (by simp only [ne_eq, Option.some.injEq]; exact (Ne.symm NExkg.out)))
  clear Rx11g
  have Bx12 : Hid (Below w.heap.size w x12) := Bx11.out.grown qx12 Bx11.out.size (fun k h => by cases h; exact GExk.out)
  clear Bx11 qx12
  go_wp2_with fail
  refine (markByteS x4.heap.size nh nh lh (1 + (nk : Int)) _ HLh.out Rx12xh.out (by omega) (by omega) (by omega)).mono ?_
  rintro e x13 ⟨rfl, rx13, qx13⟩
  have Nx13 : Hid (Row x13 x4.heap.size nh (marks (1 + (nk : Int)) nh)) := rx13
  clear rx13
  clear Rx12xh
  have Rx13w : Hid (Row x13 gw cw r) := Rx12w.out.keep (qx13.block _ Rx12w.out.lt (by simp only [ne_eq, Option.some.injEq]; exact NEwxh.out))
  clear Rx12w
  have Rx13g : Hid (Row x13 gg cg r) := Rx12g.out.keep (qx13.block _ Rx12g.out.lt (by simp only [ne_eq, Option.some.injEq]; exact (Ne.symm NExhg.out)))
  clear Rx12g
  have Rx13xk : Hid (Row x13 x3.heap.size nk (marks 1 nk)) := Nx12.out.keep (qx13.block _ Nx12.out.lt (by simp only [ne_eq, Option.some.injEq]; exact NExkxh.out))
  clear Nx12
  have Bx13 : Hid (Below w.heap.size w x13) := Bx12.out.grown qx13 Bx12.out.size (fun k h => by cases h; exact GExh.out)
  clear Bx12 qx13
  go_wp2_with fail
  refine (eqByteS _ _ mg cg mw cw r r _ Eg.out Ew.out Rx13g.out.rd Rx13w.out.rd (by rw [← Eg.out]; omega) (by rw [← Ew.out]; omega)).mono ?_
  rintro e x14 ⟨rfl, mx14, dx14⟩
  have bx14 : Below x13.heap.size x13 x14 := by rw [dx14]; exact below_drewN (Below.refl _ _) _
  clear dx14
  have Rx14w : Hid (Row x14 gw cw r) := Rx13w.out.later bx14
  clear Rx13w
  have Rx14g : Hid (Row x14 gg cg r) := Rx13g.out.later bx14
  clear Rx13g
  have Rx14xk : Hid (Row x14 x3.heap.size nk (marks 1 nk)) := Rx13xk.out.later bx14
  clear Rx13xk
  have Rx14xh : Hid (Row x14 x4.heap.size nh (marks (1 + (nk : Int)) nh)) := Nx13.out.later bx14
  clear Nx13
  have Bx14 : Hid (Below w.heap.size w x14) := Bx13.out.trans (bx14.mono Bx13.out.size)
  clear Bx13
  clear bx14
  go_wp2_with fail
  refine (markByteS gg mg cg r 1 _ Eg.out Rx14g.out (by rw [← Eg.out]; omega) (by omega) (by omega)).mono ?_
  rintro e x15 ⟨rfl, rx15, qx15⟩
  have Nx15 : Hid (Row x15 gg cg (marks 1 mg)) := rx15
  clear rx15
  clear Rx14g
  have Rx15w : Hid (Row x15 gw cw r) := Rx14w.out.keep (qx15.block _ Rx14w.out.lt (by simp only [ne_eq, Option.some.injEq]; exact NEwg.out))
  clear Rx14w
  have Rx15xk : Hid (Row x15 x3.heap.size nk (marks 1 nk)) := Rx14xk.out.keep (qx15.block _ Rx14xk.out.lt (by simp only [ne_eq, Option.some.injEq]; exact NExkg.out))
  clear Rx14xk
  have Rx15xh : Hid (Row x15 x4.heap.size nh (marks (1 + (nk : Int)) nh)) := Rx14xh.out.keep (qx15.block _ Rx14xh.out.lt (by simp only [ne_eq, Option.some.injEq]; exact NExhg.out))
  clear Rx14xh
  have Bx15 : Hid (Below w.heap.size w x15) := Bx14.out.grown qx15 Bx14.out.size (fun k h => by cases h; exact GEg.out)
  clear Bx14 qx15
  go_wp2_with fail
  refine (heldByteS _ cg mg 1 _ Nx15.out.rd (by omega) (by omega) (by omega)).mono ?_
  rintro e x16 ⟨rfl, rfl⟩
  go_wp2_with fail
  refine (toByteS ak nk ck lk _ HLk.out (HRk.out.later Bx15.out (Nat.le_refl _)) (by omega)).mono ?_
  rintro e x17 ⟨rfl, rx17, bx17⟩
  have Nx17 : Hid (Row x17 x15.heap.size nk lk) := rx17
  clear rx17
  have NEwhk : Hid (gw ≠ x15.heap.size) := Nat.ne_of_lt (Nat.lt_of_lt_of_le Rx15w.out.lt (Nat.le_refl _))
  have NExkhk : Hid (x3.heap.size ≠ x15.heap.size) := Nat.ne_of_lt (Nat.lt_of_lt_of_le Rx15xk.out.lt (Nat.le_refl _))
  have NExhhk : Hid (x4.heap.size ≠ x15.heap.size) := Nat.ne_of_lt (Nat.lt_of_lt_of_le Rx15xh.out.lt (Nat.le_refl _))
  have NEghk : Hid (gg ≠ x15.heap.size) := Nat.ne_of_lt (Nat.lt_of_lt_of_le Nx15.out.lt (Nat.le_refl _))
  have GEhk : Hid (w.heap.size ≤ x15.heap.size) := Nat.le_trans Bx15.out.size (Nat.le_refl _)
  have Rx17w : Hid (Row x17 gw cw r) := Rx15w.out.later bx17
  clear Rx15w
  have Rx17xk : Hid (Row x17 x3.heap.size nk (marks 1 nk)) := Rx15xk.out.later bx17
  clear Rx15xk
  have Rx17xh : Hid (Row x17 x4.heap.size nh (marks (1 + (nk : Int)) nh)) := Rx15xh.out.later bx17
  clear Rx15xh
  have Rx17g : Hid (Row x17 gg cg (marks 1 mg)) := Nx15.out.later bx17
  clear Nx15
  have Bx17 : Hid (Below w.heap.size w x17) := Bx15.out.trans (bx17.mono Bx15.out.size)
  clear Bx15
  clear bx17
  go_wp2_with fail
  refine (toByteS ah nh ch lh _ HLh.out (HRh.out.later Bx17.out (Nat.le_refl _)) (by omega)).mono ?_
  rintro e x18 ⟨rfl, rx18, bx18⟩
  have Nx18 : Hid (Row x18 x17.heap.size nh lh) := rx18
  clear rx18
  have NEwhh : Hid (gw ≠ x17.heap.size) := Nat.ne_of_lt (Nat.lt_of_lt_of_le Rx17w.out.lt (Nat.le_refl _))
  have NExkhh : Hid (x3.heap.size ≠ x17.heap.size) := Nat.ne_of_lt (Nat.lt_of_lt_of_le Rx17xk.out.lt (Nat.le_refl _))
  have NExhhh : Hid (x4.heap.size ≠ x17.heap.size) := Nat.ne_of_lt (Nat.lt_of_lt_of_le Rx17xh.out.lt (Nat.le_refl _))
  have NEghh : Hid (gg ≠ x17.heap.size) := Nat.ne_of_lt (Nat.lt_of_lt_of_le Rx17g.out.lt (Nat.le_refl _))
  have NEhkhh : Hid (x15.heap.size ≠ x17.heap.size) := Nat.ne_of_lt (Nat.lt_of_lt_of_le Nx17.out.lt (Nat.le_refl _))
  have GEhh : Hid (w.heap.size ≤ x17.heap.size) := Nat.le_trans Bx17.out.size (Nat.le_refl _)
  have Rx18w : Hid (Row x18 gw cw r) := Rx17w.out.later bx18
  clear Rx17w
  have Rx18xk : Hid (Row x18 x3.heap.size nk (marks 1 nk)) := Rx17xk.out.later bx18
  clear Rx17xk
  have Rx18xh : Hid (Row x18 x4.heap.size nh (marks (1 + (nk : Int)) nh)) := Rx17xh.out.later bx18
  clear Rx17xh
  have Rx18g : Hid (Row x18 gg cg (marks 1 mg)) := Rx17g.out.later bx18
  clear Rx17g
  have Rx18hk : Hid (Row x18 x15.heap.size nk lk) := Nx17.out.later bx18
  clear Nx17
  have Bx18 : Hid (Below w.heap.size w x18) := Bx17.out.trans (bx18.mono Bx17.out.size)
  clear Bx17
  clear bx18
  go_wp2_with fail
  refine (implStream _ nk nk _ nh nh lk lh n _ (HT.out.later Bx18.out) HLk.out HLh.out Rx18hk.out.rd Nx18.out.rd (by intro e; cases e) (by intro e; cases e) HYk.out HYh.out (by omega) (by omega)).mono ?_
  rw [HO.out]
  rintro e x19 ⟨gh, mh, ch, rfl, ex19, hx19, rx19, bx19⟩
  have Eh : Hid (mh = r.length) := ex19
  have Nx19 : Hid (Row x19 gh ch r) := rx19
  have NEwh : Hid (gw ≠ gh) := Nat.ne_of_lt (Nat.lt_of_lt_of_le Rx18w.out.lt hx19)
  have NExkh : Hid (x3.heap.size ≠ gh) := Nat.ne_of_lt (Nat.lt_of_lt_of_le Rx18xk.out.lt hx19)
  have NExhh : Hid (x4.heap.size ≠ gh) := Nat.ne_of_lt (Nat.lt_of_lt_of_le Rx18xh.out.lt hx19)
  have NEgh : Hid (gg ≠ gh) := Nat.ne_of_lt (Nat.lt_of_lt_of_le Rx18g.out.lt hx19)
  have NEhkh : Hid (x15.heap.size ≠ gh) := Nat.ne_of_lt (Nat.lt_of_lt_of_le Rx18hk.out.lt hx19)
  have NEhhh : Hid (x17.heap.size ≠ gh) := Nat.ne_of_lt (Nat.lt_of_lt_of_le Nx18.out.lt hx19)
  have GEh : Hid (w.heap.size ≤ gh) := Nat.le_trans Bx18.out.size hx19
  clear ex19 rx19 hx19
  have Rx19w : Hid (Row x19 gw cw r) := Rx18w.out.later bx19
  clear Rx18w
  have Rx19xk : Hid (Row x19 x3.heap.size nk (marks 1 nk)) := Rx18xk.out.later bx19
  clear Rx18xk
  have Rx19xh : Hid (Row x19 x4.heap.size nh (marks (1 + (nk : Int)) nh)) := Rx18xh.out.later bx19
  clear Rx18xh
  have Rx19g : Hid (Row x19 gg cg (marks 1 mg)) := Rx18g.out.later bx19
  clear Rx18g
  have Rx19hk : Hid (Row x19 x15.heap.size nk lk) := Rx18hk.out.later bx19
  clear Rx18hk
  have Rx19hh : Hid (Row x19 x17.heap.size nh lh) := Nx18.out.later bx19
  clear Nx18
  have Bx19 : Hid (Below w.heap.size w x19) := Bx18.out.trans (bx19.mono Bx18.out.size)
  clear Bx18
  clear bx19
  have hmh : mh ≤ 1048576 := by rw [Eh.out]; exact HPL.out
  go_wp2_with fail
  refine (eqByteS _ _ mh ch mw cw r r _ Eh.out Ew.out Nx19.out.rd Rx19w.out.rd (by rw [← Eh.out]; omega) (by rw [← Ew.out]; omega)).mono ?_
  rintro e x20 ⟨rfl, mx20, dx20⟩
  have bx20 : Below x19.heap.size x19 x20 := by rw [dx20]; exact below_drewN (Below.refl _ _) _
  clear dx20
  have Rx20w : Hid (Row x20 gw cw r) := Rx19w.out.later bx20
  clear Rx19w
  have Rx20xk : Hid (Row x20 x3.heap.size nk (marks 1 nk)) := Rx19xk.out.later bx20
  clear Rx19xk
  have Rx20xh : Hid (Row x20 x4.heap.size nh (marks (1 + (nk : Int)) nh)) := Rx19xh.out.later bx20
  clear Rx19xh
  have Rx20g : Hid (Row x20 gg cg (marks 1 mg)) := Rx19g.out.later bx20
  clear Rx19g
  have Rx20hk : Hid (Row x20 x15.heap.size nk lk) := Rx19hk.out.later bx20
  clear Rx19hk
  have Rx20hh : Hid (Row x20 x17.heap.size nh lh) := Rx19hh.out.later bx20
  clear Rx19hh
  have Rx20h : Hid (Row x20 gh ch r) := Nx19.out.later bx20
  clear Nx19
  have Bx20 : Hid (Below w.heap.size w x20) := Bx19.out.trans (bx20.mono Bx19.out.size)
  clear Bx19
  clear bx20
  go_wp2_with fail
  refine (heldByteS _ cg mg 1 _ Rx20g.out.rd (by omega) (by omega) (by omega)).mono ?_
  rintro e x21 ⟨rfl, rfl⟩
  go_wp2
  go_ret
  exact ⟨rfl, Bx20.out⟩

theorem walk (ak : Option Addr) (nk ck : Nat) (zk : List Int) (ah : Option Addr) (nh ch : Nat) (zh : List Int) (n : Int) (w : World) (hT : Tab w) (hk : IsRow .u8 w ak nk ck zk) (hh : IsRow .u8 w ah nh ch zh) :
    Calls Tryd.prog 6 #[.slice ak nk ck, .slice ah nh ch, .int .i64 n] w fun e w' => e = .returned (.bool true) ∧ Below w.heap.size w w' := by
  obtain ⟨lk, hlk, hrk, _, hbk⟩ := hk.read
  obtain ⟨lh, hlh, hrh, _, hbh⟩ := hh.read
  by_cases hzk : nk ≤ 1048576
  · skip
    by_cases hzh : nh ≤ 1048576
    · skip
      exact small ak nk ck lk ah nh ch lh n w hT hlk hrk hbk hzk hlh hrh hbh hzh
    · have hgh : (1048576 : Int) < (nh : Int) := by omega
      have hxk : (nk : Int) ≤ 1048576 := by omega
      clear hk hlk hrk hbk hh hlh hrh hbh hzk hzh
      go_enter Tryd.func6, Tryd.ntmps6
      go_wp2
      go_ret
      exact ⟨rfl, Below.refl _ _⟩
  · have hgk : (1048576 : Int) < (nk : Int) := by omega
    clear hk hlk hrk hbk hh hlh hrh hbh hzk
    go_enter Tryd.func6, Tryd.ntmps6
    go_wp2
    go_ret
    exact ⟨rfl, Below.refl _ _⟩
end Go.Proofs.YtppckomiobablaaDoor.LawStream
