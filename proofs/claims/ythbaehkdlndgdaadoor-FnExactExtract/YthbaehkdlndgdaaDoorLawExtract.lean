/-
  laws.FnExactExtract answers true at every two slices of bytes, where the table of round words holds what the program's text lays into it; nothing that was there is written into.
-/
import Derived.Test.YthbaehkdlndgdaaDoorKdfI
import Derived.Test.YthbaehkdlndgdaaDoorKdfS
namespace Go.Proofs.YthbaehkdlndgdaaDoor.LawExtract
open Go.RowKit Go.Proofs.YthbaehkdlndgdaaDoor.Mem Go.Proofs.YthbaehkdlndgdaaDoor.MemI Go.Proofs.YthbaehkdlndgdaaDoor.Blk Go.Proofs.YthbaehkdlndgdaaDoor.App Go.Proofs.YthbaehkdlndgdaaDoor.Get Go.Proofs.YthbaehkdlndgdaaDoor.ShaP Go.Proofs.YthbaehkdlndgdaaDoor.Word Go.Proofs.YthbaehkdlndgdaaDoor.Bits Go.Proofs.YthbaehkdlndgdaaDoor.Comp Go.Proofs.YthbaehkdlndgdaaDoor.MacP Go.Proofs.YthbaehkdlndgdaaDoor.KdfP Go.Proofs.YthbaehkdlndgdaaDoor.Str Go.Proofs.YthbaehkdlndgdaaDoor.KdfI Go.Proofs.YthbaehkdlndgdaaDoor.KdfS

set_option maxRecDepth 100000 in
set_option maxHeartbeats 1600000 in
theorem small (ax : Option Addr) (nx cx : Nat) (lx : List Int) (ai : Option Addr) (ni ci : Nat) (li : List Int) (w : World) (hT : Tab w) (hlx : nx = lx.length) (hrx : Rd w ax lx) (hbx : Bytes lx) (hzx : nx ≤ 1048576) (hli : ni = li.length) (hri : Rd w ai li) (hbi : Bytes li) (hzi : ni ≤ 1048576) :
    Calls Tryd.prog 5 #[.slice ax nx cx, .slice ai ni ci] w fun e w' => e = .returned (.bool true) ∧ Below w.heap.size w w' := by
  have HLx : Hid (nx = lx.length) := hlx
  have HRx : Hid (Rd w ax lx) := hrx
  have HYx : Hid (Bytes lx) := hbx
  have HLi : Hid (ni = li.length) := hli
  have HRi : Hid (Rd w ai li) := hri
  have HYi : Hid (Bytes li) := hbi
  have HT : Hid (Tab w) := hT
  obtain ⟨r, hr⟩ : ∃ r, hmacI lx li = r := ⟨_, rfl⟩
  have HPL : Hid (r.length ≤ 1048576) := by rw [← hr]; exact (Nat.le_trans (hmacI_le lx li) (by omega))
  have HO : Hid (hmacI lx li = r) := hr
  clear hr hT hlx hrx hbx hli hri hbi
  have hqx : lx.length ≤ 1048576 := by rw [← HLx.out]; exact hzx
  have hqi : li.length ≤ 1048576 := by rw [← HLi.out]; exact hzi
  go_enter Tryd.func5, Tryd.ntmps5
  go_wp2_with fail
  refine (toByteS ax nx cx lx _ HLx.out HRx.out (by omega)).mono ?_
  rintro e x1 ⟨rfl, rx1, bx1⟩
  have Nx1 : Hid (Row x1 w.heap.size nx lx) := rx1
  clear rx1
  have GEsx : Hid (w.heap.size ≤ w.heap.size) := (Nat.le_refl _)
  have Bx1 : Hid (Below w.heap.size w x1) := bx1
  clear bx1
  go_wp2_with fail
  refine (toByteS ai ni ci li _ HLi.out (HRi.out.later Bx1.out (Nat.le_refl _)) (by omega)).mono ?_
  rintro e x2 ⟨rfl, rx2, bx2⟩
  have Nx2 : Hid (Row x2 x1.heap.size ni li) := rx2
  clear rx2
  have NEsxsi : Hid (w.heap.size ≠ x1.heap.size) := Nat.ne_of_lt (Nat.lt_of_lt_of_le Nx1.out.lt (Nat.le_refl _))
  have GEsi : Hid (w.heap.size ≤ x1.heap.size) := Nat.le_trans Bx1.out.size (Nat.le_refl _)
  have Rx2sx : Hid (Row x2 w.heap.size nx lx) := Nx1.out.later bx2
  clear Nx1
  have Bx2 : Hid (Below w.heap.size w x2) := Bx1.out.trans (bx2.mono Bx1.out.size)
  clear Bx1
  clear bx2
  go_wp2_with fail
  refine (specExtract _ nx nx _ ni ni lx li  _  HLx.out HLi.out Rx2sx.out.rd Nx2.out.rd (by intro e; cases e) (by intro e; cases e) HYx.out HYi.out (by omega) (by omega)).mono ?_
  rw [HO.out]
  rintro e x3 ⟨gw, mw, cw, rfl, ex3, hx3, rx3, bx3⟩
  have Ew : Hid (mw = r.length) := ex3
  have Nx3 : Hid (Row x3 gw cw r) := rx3
  have NEsxw : Hid (w.heap.size ≠ gw) := Nat.ne_of_lt (Nat.lt_of_lt_of_le Rx2sx.out.lt hx3)
  have NEsiw : Hid (x1.heap.size ≠ gw) := Nat.ne_of_lt (Nat.lt_of_lt_of_le Nx2.out.lt hx3)
  have GEw : Hid (w.heap.size ≤ gw) := Nat.le_trans Bx2.out.size hx3
  clear ex3 rx3 hx3
  have Rx3sx : Hid (Row x3 w.heap.size nx lx) := Rx2sx.out.later bx3
  clear Rx2sx
  have Rx3si : Hid (Row x3 x1.heap.size ni li) := Nx2.out.later bx3
  clear Nx2
  have Bx3 : Hid (Below w.heap.size w x3) := Bx2.out.trans (bx3.mono Bx2.out.size)
  clear Bx2
  clear bx3
  have hmw : mw ≤ 1048576 := by rw [Ew.out]; exact HPL.out
  clear Rx3sx
  clear Rx3si
  go_wp2_with fail
  refine (toByteS ax nx cx lx _ HLx.out (HRx.out.later Bx3.out (Nat.le_refl _)) (by omega)).mono ?_
  rintro e x4 ⟨rfl, rx4, bx4⟩
  have Nx4 : Hid (Row x4 x3.heap.size nx lx) := rx4
  clear rx4
  have NEwxx : Hid (gw ≠ x3.heap.size) := Nat.ne_of_lt (Nat.lt_of_lt_of_le Nx3.out.lt (Nat.le_refl _))
  have GExx : Hid (w.heap.size ≤ x3.heap.size) := Nat.le_trans Bx3.out.size (Nat.le_refl _)
  have Rx4w : Hid (Row x4 gw cw r) := Nx3.out.later bx4
  clear Nx3
  have Bx4 : Hid (Below w.heap.size w x4) := Bx3.out.trans (bx4.mono Bx3.out.size)
  clear Bx3
  clear bx4
  go_wp2_with fail
  refine (toByteS ai ni ci li _ HLi.out (HRi.out.later Bx4.out (Nat.le_refl _)) (by omega)).mono ?_
  rintro e x5 ⟨rfl, rx5, bx5⟩
  have Nx5 : Hid (Row x5 x4.heap.size ni li) := rx5
  clear rx5
  have NEwxi : Hid (gw ≠ x4.heap.size) := Nat.ne_of_lt (Nat.lt_of_lt_of_le Rx4w.out.lt (Nat.le_refl _))
  have NExxxi : Hid (x3.heap.size ≠ x4.heap.size) := Nat.ne_of_lt (Nat.lt_of_lt_of_le Nx4.out.lt (Nat.le_refl _))
  have GExi : Hid (w.heap.size ≤ x4.heap.size) := Nat.le_trans Bx4.out.size (Nat.le_refl _)
  have Rx5w : Hid (Row x5 gw cw r) := Rx4w.out.later bx5
  clear Rx4w
  have Rx5xx : Hid (Row x5 x3.heap.size nx lx) := Nx4.out.later bx5
  clear Nx4
  have Bx5 : Hid (Below w.heap.size w x5) := Bx4.out.trans (bx5.mono Bx4.out.size)
  clear Bx4
  clear bx5
  go_wp2_with fail
  refine (implExtract _ nx nx _ ni ni lx li  _ (HT.out.later Bx5.out) HLx.out HLi.out Rx5xx.out.rd Nx5.out.rd (by intro e; cases e) (by intro e; cases e) HYx.out HYi.out (by omega) (by omega)).mono ?_
  rw [HO.out]
  rintro e x6 ⟨gg, mg, cg, rfl, ex6, hx6, rx6, bx6⟩
  have Eg : Hid (mg = r.length) := ex6
  have Nx6 : Hid (Row x6 gg cg r) := rx6
  have NEwg : Hid (gw ≠ gg) := Nat.ne_of_lt (Nat.lt_of_lt_of_le Rx5w.out.lt hx6)
  have NExxg : Hid (x3.heap.size ≠ gg) := Nat.ne_of_lt (Nat.lt_of_lt_of_le Rx5xx.out.lt hx6)
  have NExig : Hid (x4.heap.size ≠ gg) := Nat.ne_of_lt (Nat.lt_of_lt_of_le Nx5.out.lt hx6)
  have GEg : Hid (w.heap.size ≤ gg) := Nat.le_trans Bx5.out.size hx6
  clear ex6 rx6 hx6
  have Rx6w : Hid (Row x6 gw cw r) := Rx5w.out.later bx6
  clear Rx5w
  have Rx6xx : Hid (Row x6 x3.heap.size nx lx) := Rx5xx.out.later bx6
  clear Rx5xx
  have Rx6xi : Hid (Row x6 x4.heap.size ni li) := Nx5.out.later bx6
  clear Nx5
  have Bx6 : Hid (Below w.heap.size w x6) := Bx5.out.trans (bx6.mono Bx5.out.size)
  clear Bx5
  clear bx6
  have hmg : mg ≤ 1048576 := by rw [Eg.out]; exact HPL.out
  go_wp2_with fail
  refine (eqByteS _ _ mg cg mw cw r r _ Eg.out Ew.out Nx6.out.rd Rx6w.out.rd (by rw [← Eg.out]; omega) (by rw [← Ew.out]; omega)).mono ?_
  rintro e x7 ⟨rfl, mx7, dx7⟩
  have bx7 : Below x6.heap.size x6 x7 := by rw [dx7]; exact below_drewN (Below.refl _ _) _
  clear dx7
  have Rx7w : Hid (Row x7 gw cw r) := Rx6w.out.later bx7
  clear Rx6w
  have Rx7xx : Hid (Row x7 x3.heap.size nx lx) := Rx6xx.out.later bx7
  clear Rx6xx
  have Rx7xi : Hid (Row x7 x4.heap.size ni li) := Rx6xi.out.later bx7
  clear Rx6xi
  have Rx7g : Hid (Row x7 gg cg r) := Nx6.out.later bx7
  clear Nx6
  have Bx7 : Hid (Below w.heap.size w x7) := Bx6.out.trans (bx7.mono Bx6.out.size)
  clear Bx6
  clear bx7
  go_wp2_with fail
  refine (toByteS ax nx cx lx _ HLx.out (HRx.out.later Bx7.out (Nat.le_refl _)) (by omega)).mono ?_
  rintro e x8 ⟨rfl, rx8, bx8⟩
  have Nx8 : Hid (Row x8 x7.heap.size nx lx) := rx8
  clear rx8
  have NEwtx : Hid (gw ≠ x7.heap.size) := Nat.ne_of_lt (Nat.lt_of_lt_of_le Rx7w.out.lt (Nat.le_refl _))
  have NExxtx : Hid (x3.heap.size ≠ x7.heap.size) := Nat.ne_of_lt (Nat.lt_of_lt_of_le Rx7xx.out.lt (Nat.le_refl _))
  have NExitx : Hid (x4.heap.size ≠ x7.heap.size) := Nat.ne_of_lt (Nat.lt_of_lt_of_le Rx7xi.out.lt (Nat.le_refl _))
  have NEgtx : Hid (gg ≠ x7.heap.size) := Nat.ne_of_lt (Nat.lt_of_lt_of_le Rx7g.out.lt (Nat.le_refl _))
  have GEtx : Hid (w.heap.size ≤ x7.heap.size) := Nat.le_trans Bx7.out.size (Nat.le_refl _)
  have Rx8w : Hid (Row x8 gw cw r) := Rx7w.out.later bx8
  clear Rx7w
  have Rx8xx : Hid (Row x8 x3.heap.size nx lx) := Rx7xx.out.later bx8
  clear Rx7xx
  have Rx8xi : Hid (Row x8 x4.heap.size ni li) := Rx7xi.out.later bx8
  clear Rx7xi
  have Rx8g : Hid (Row x8 gg cg r) := Rx7g.out.later bx8
  clear Rx7g
  have Bx8 : Hid (Below w.heap.size w x8) := Bx7.out.trans (bx8.mono Bx7.out.size)
  clear Bx7
  clear bx8
  go_wp2_with fail
  refine (eqByteS _ _ nx nx nx nx lx lx _ HLx.out HLx.out Rx8xx.out.rd Nx8.out.rd (by omega) (by omega)).mono ?_
  rintro e x9 ⟨rfl, mx9, dx9⟩
  have bx9 : Below x8.heap.size x8 x9 := by rw [dx9]; exact below_drewN (Below.refl _ _) _
  clear dx9
  have Rx9w : Hid (Row x9 gw cw r) := Rx8w.out.later bx9
  clear Rx8w
  have Rx9xx : Hid (Row x9 x3.heap.size nx lx) := Rx8xx.out.later bx9
  clear Rx8xx
  have Rx9xi : Hid (Row x9 x4.heap.size ni li) := Rx8xi.out.later bx9
  clear Rx8xi
  have Rx9g : Hid (Row x9 gg cg r) := Rx8g.out.later bx9
  clear Rx8g
  have Rx9tx : Hid (Row x9 x7.heap.size nx lx) := Nx8.out.later bx9
  clear Nx8
  have Bx9 : Hid (Below w.heap.size w x9) := Bx8.out.trans (bx9.mono Bx8.out.size)
  clear Bx8
  clear bx9
  clear Rx9tx
  go_wp2_with fail
  refine (toByteS ai ni ci li _ HLi.out (HRi.out.later Bx9.out (Nat.le_refl _)) (by omega)).mono ?_
  rintro e x10 ⟨rfl, rx10, bx10⟩
  have Nx10 : Hid (Row x10 x9.heap.size ni li) := rx10
  clear rx10
  have NEwti : Hid (gw ≠ x9.heap.size) := Nat.ne_of_lt (Nat.lt_of_lt_of_le Rx9w.out.lt (Nat.le_refl _))
  have NExxti : Hid (x3.heap.size ≠ x9.heap.size) := Nat.ne_of_lt (Nat.lt_of_lt_of_le Rx9xx.out.lt (Nat.le_refl _))
  have NExiti : Hid (x4.heap.size ≠ x9.heap.size) := Nat.ne_of_lt (Nat.lt_of_lt_of_le Rx9xi.out.lt (Nat.le_refl _))
  have NEgti : Hid (gg ≠ x9.heap.size) := Nat.ne_of_lt (Nat.lt_of_lt_of_le Rx9g.out.lt (Nat.le_refl _))
  have GEti : Hid (w.heap.size ≤ x9.heap.size) := Nat.le_trans Bx9.out.size (Nat.le_refl _)
  have Rx10w : Hid (Row x10 gw cw r) := Rx9w.out.later bx10
  clear Rx9w
  have Rx10xx : Hid (Row x10 x3.heap.size nx lx) := Rx9xx.out.later bx10
  clear Rx9xx
  have Rx10xi : Hid (Row x10 x4.heap.size ni li) := Rx9xi.out.later bx10
  clear Rx9xi
  have Rx10g : Hid (Row x10 gg cg r) := Rx9g.out.later bx10
  clear Rx9g
  have Bx10 : Hid (Below w.heap.size w x10) := Bx9.out.trans (bx10.mono Bx9.out.size)
  clear Bx9
  clear bx10
  go_wp2_with fail
  refine (eqByteS _ _ ni ni ni ni li li _ HLi.out HLi.out Rx10xi.out.rd Nx10.out.rd (by omega) (by omega)).mono ?_
  rintro e x11 ⟨rfl, mx11, dx11⟩
  have bx11 : Below x10.heap.size x10 x11 := by rw [dx11]; exact below_drewN (Below.refl _ _) _
  clear dx11
  have Rx11w : Hid (Row x11 gw cw r) := Rx10w.out.later bx11
  clear Rx10w
  have Rx11xx : Hid (Row x11 x3.heap.size nx lx) := Rx10xx.out.later bx11
  clear Rx10xx
  have Rx11xi : Hid (Row x11 x4.heap.size ni li) := Rx10xi.out.later bx11
  clear Rx10xi
  have Rx11g : Hid (Row x11 gg cg r) := Rx10g.out.later bx11
  clear Rx10g
  have Rx11ti : Hid (Row x11 x9.heap.size ni li) := Nx10.out.later bx11
  clear Nx10
  have Bx11 : Hid (Below w.heap.size w x11) := Bx10.out.trans (bx11.mono Bx10.out.size)
  clear Bx10
  clear bx11
  clear Rx11ti
  go_wp2_with fail
  refine (markByteS x3.heap.size nx nx lx 1 _ HLx.out Rx11xx.out (by omega) (by omega) (by omega)).mono ?_
  rintro e x12 ⟨rfl, rx12, qx12⟩
  have Nx12 : Hid (Row x12 x3.heap.size nx (marks 1 nx)) := rx12
  clear rx12
  clear Rx11xx
  have Rx12w : Hid (Row x12 gw cw r) := Rx11w.out.keep (qx12.block _ Rx11w.out.lt (by simp only [ne_eq, Option.some.injEq]; exact NEwxx.out))
  clear Rx11w
  have Rx12xi : Hid (Row x12 x4.heap.size ni li) := Rx11xi.out.keep (qx12.block _ Rx11xi.out.lt (by simp only [ne_eq, Option.some.injEq]; exact (Ne.symm NExxxi.out)))
  clear Rx11xi
  have Rx12g : Hid (Row x12 gg cg r) := Rx11g.out.keep (qx12.block _ Rx11g.out.lt (by simp only [ne_eq, Option.some.injEq]; exact (Ne.symm NExxg.out)))
  clear Rx11g
  have Bx12 : Hid (Below w.heap.size w x12) := Bx11.out.grown qx12 Bx11.out.size (fun k h => by cases h; exact GExx.out)
  clear Bx11 qx12
  go_wp2_with fail
  refine (markByteS x4.heap.size ni ni li (1 + (nx : Int)) _ HLi.out Rx12xi.out (by omega) (by omega) (by omega)).mono ?_
  rintro e x13 ⟨rfl, rx13, qx13⟩
  have Nx13 : Hid (Row x13 x4.heap.size ni (marks (1 + (nx : Int)) ni)) := rx13
  clear rx13
  clear Rx12xi
  have Rx13w : Hid (Row x13 gw cw r) := Rx12w.out.keep (qx13.block _ Rx12w.out.lt (by simp only [ne_eq, Option.some.injEq]; exact NEwxi.out))
  clear Rx12w
  have Rx13g : Hid (Row x13 gg cg r) := Rx12g.out.keep (qx13.block _ Rx12g.out.lt (by simp only [ne_eq, Option.some.injEq]; exact (Ne.symm NExig.out)))
  clear Rx12g
  have Rx13xx : Hid (Row x13 x3.heap.size nx (marks 1 nx)) := Nx12.out.keep (qx13.block _ Nx12.out.lt (by simp only [ne_eq, Option.some.injEq]; exact NExxxi.out))
  clear Nx12
  have Bx13 : Hid (Below w.heap.size w x13) := Bx12.out.grown qx13 Bx12.out.size (fun k h => by cases h; exact GExi.out)
  clear Bx12 qx13
  go_wp2_with fail
  refine (eqByteS _ _ mg cg mw cw r r _ Eg.out Ew.out Rx13g.out.rd Rx13w.out.rd (by rw [← Eg.out]; omega) (by rw [← Ew.out]; omega)).mono ?_
  rintro e x14 ⟨rfl, mx14, dx14⟩
  have bx14 : Below x13.heap.size x13 x14 := by rw [dx14]; exact below_drewN (Below.refl _ _) _
  clear dx14
  have Rx14w : Hid (Row x14 gw cw r) := Rx13w.out.later bx14
  clear Rx13w
  have Rx14g : Hid (Row x14 gg cg r) := Rx13g.out.later bx14
  clear Rx13g
  have Rx14xx : Hid (Row x14 x3.heap.size nx (marks 1 nx)) := Rx13xx.out.later bx14
  clear Rx13xx
  have Rx14xi : Hid (Row x14 x4.heap.size ni (marks (1 + (nx : Int)) ni)) := Nx13.out.later bx14
  clear Nx13
  have Bx14 : Hid (Below w.heap.size w x14) := Bx13.out.trans (bx14.mono Bx13.out.size)
  clear Bx13
  clear bx14
  go_wp2_with fail
  refine (markByteS gg mg cg r 1 _ Eg.out Rx14g.out (by rw [← Eg.out]; omega) (by omega) (by omega)).mono ?_
  rintro e x15 ⟨rfl, rx15, qx15⟩
  have Nx15 : Hid (Row x15 gg cg (marks 1 mg)) := rx15
  clear rx15
  clear Rx14g
  have Rx15w : Hid (Row x15 gw cw r) := Rx14w.out.keep (qx15.block _ Rx14w.out.lt (by simp only [ne_eq, Option.some.injEq]; exact NEwg.out))
  clear Rx14w
  have Rx15xx : Hid (Row x15 x3.heap.size nx (marks 1 nx)) := Rx14xx.out.keep (qx15.block _ Rx14xx.out.lt (by simp only [ne_eq, Option.some.injEq]; exact NExxg.out))
  clear Rx14xx
  have Rx15xi : Hid (Row x15 x4.heap.size ni (marks (1 + (nx : Int)) ni)) := Rx14xi.out.keep (qx15.block _ Rx14xi.out.lt (by simp only [ne_eq, Option.some.injEq]; exact NExig.out))
  clear Rx14xi
  have Bx15 : Hid (Below w.heap.size w x15) := Bx14.out.grown qx15 Bx14.out.size (fun k h => by cases h; exact GEg.out)
  clear Bx14 qx15
  go_wp2_with fail
  refine (heldByteS _ cg mg 1 _ Nx15.out.rd (by omega) (by omega) (by omega)).mono ?_
  rintro e x16 ⟨rfl, rfl⟩
  go_wp2_with fail
  refine (toByteS ax nx cx lx _ HLx.out (HRx.out.later Bx15.out (Nat.le_refl _)) (by omega)).mono ?_
  rintro e x17 ⟨rfl, rx17, bx17⟩
  have Nx17 : Hid (Row x17 x15.heap.size nx lx) := rx17
  clear rx17
  have NEwhx : Hid (gw ≠ x15.heap.size) := Nat.ne_of_lt (Nat.lt_of_lt_of_le Rx15w.out.lt (Nat.le_refl _))
  have NExxhx : Hid (x3.heap.size ≠ x15.heap.size) := Nat.ne_of_lt (Nat.lt_of_lt_of_le Rx15xx.out.lt (Nat.le_refl _))
  have NExihx : Hid (x4.heap.size ≠ x15.heap.size) := Nat.ne_of_lt (Nat.lt_of_lt_of_le Rx15xi.out.lt (Nat.le_refl _))
  have NEghx : Hid (gg ≠ x15.heap.size) := Nat.ne_of_lt (Nat.lt_of_lt_of_le Nx15.out.lt (Nat.le_refl _))
  have GEhx : Hid (w.heap.size ≤ x15.heap.size) := Nat.le_trans Bx15.out.size (Nat.le_refl _)
  have Rx17w : Hid (Row x17 gw cw r) := Rx15w.out.later bx17
  clear Rx15w
  have Rx17xx : Hid (Row x17 x3.heap.size nx (marks 1 nx)) := Rx15xx.out.later bx17
  clear Rx15xx
  have Rx17xi : Hid (Row x17 x4.heap.size ni (marks (1 + (nx : Int)) ni)) := Rx15xi.out.later bx17
  clear Rx15xi
  have Rx17g : Hid (Row x17 gg cg (marks 1 mg)) := Nx15.out.later bx17
  clear Nx15
  have Bx17 : Hid (Below w.heap.size w x17) := Bx15.out.trans (bx17.mono Bx15.out.size)
  clear Bx15
  clear bx17
  go_wp2_with fail
  refine (toByteS ai ni ci li _ HLi.out (HRi.out.later Bx17.out (Nat.le_refl _)) (by omega)).mono ?_
  rintro e x18 ⟨rfl, rx18, bx18⟩
  have Nx18 : Hid (Row x18 x17.heap.size ni li) := rx18
  clear rx18
  have NEwhi : Hid (gw ≠ x17.heap.size) := Nat.ne_of_lt (Nat.lt_of_lt_of_le Rx17w.out.lt (Nat.le_refl _))
  have NExxhi : Hid (x3.heap.size ≠ x17.heap.size) := Nat.ne_of_lt (Nat.lt_of_lt_of_le Rx17xx.out.lt (Nat.le_refl _))
  have NExihi : Hid (x4.heap.size ≠ x17.heap.size) := Nat.ne_of_lt (Nat.lt_of_lt_of_le Rx17xi.out.lt (Nat.le_refl _))
  have NEghi : Hid (gg ≠ x17.heap.size) := Nat.ne_of_lt (Nat.lt_of_lt_of_le Rx17g.out.lt (Nat.le_refl _))
  have NEhxhi : Hid (x15.heap.size ≠ x17.heap.size) := Nat.ne_of_lt (Nat.lt_of_lt_of_le Nx17.out.lt (Nat.le_refl _))
  have GEhi : Hid (w.heap.size ≤ x17.heap.size) := Nat.le_trans Bx17.out.size (Nat.le_refl _)
  have Rx18w : Hid (Row x18 gw cw r) := Rx17w.out.later bx18
  clear Rx17w
  have Rx18xx : Hid (Row x18 x3.heap.size nx (marks 1 nx)) := Rx17xx.out.later bx18
  clear Rx17xx
  have Rx18xi : Hid (Row x18 x4.heap.size ni (marks (1 + (nx : Int)) ni)) := Rx17xi.out.later bx18
  clear Rx17xi
  have Rx18g : Hid (Row x18 gg cg (marks 1 mg)) := Rx17g.out.later bx18
  clear Rx17g
  have Rx18hx : Hid (Row x18 x15.heap.size nx lx) := Nx17.out.later bx18
  clear Nx17
  have Bx18 : Hid (Below w.heap.size w x18) := Bx17.out.trans (bx18.mono Bx17.out.size)
  clear Bx17
  clear bx18
  go_wp2_with fail
  refine (implExtract _ nx nx _ ni ni lx li  _ (HT.out.later Bx18.out) HLx.out HLi.out Rx18hx.out.rd Nx18.out.rd (by intro e; cases e) (by intro e; cases e) HYx.out HYi.out (by omega) (by omega)).mono ?_
  rw [HO.out]
  rintro e x19 ⟨gh, mh, ch, rfl, ex19, hx19, rx19, bx19⟩
  have Eh : Hid (mh = r.length) := ex19
  have Nx19 : Hid (Row x19 gh ch r) := rx19
  have NEwh : Hid (gw ≠ gh) := Nat.ne_of_lt (Nat.lt_of_lt_of_le Rx18w.out.lt hx19)
  have NExxh : Hid (x3.heap.size ≠ gh) := Nat.ne_of_lt (Nat.lt_of_lt_of_le Rx18xx.out.lt hx19)
  have NExih : Hid (x4.heap.size ≠ gh) := Nat.ne_of_lt (Nat.lt_of_lt_of_le Rx18xi.out.lt hx19)
  have NEgh : Hid (gg ≠ gh) := Nat.ne_of_lt (Nat.lt_of_lt_of_le Rx18g.out.lt hx19)
  have NEhxh : Hid (x15.heap.size ≠ gh) := Nat.ne_of_lt (Nat.lt_of_lt_of_le Rx18hx.out.lt hx19)
  have NEhih : Hid (x17.heap.size ≠ gh) := Nat.ne_of_lt (Nat.lt_of_lt_of_le Nx18.out.lt hx19)
  have GEh : Hid (w.heap.size ≤ gh) := Nat.le_trans Bx18.out.size hx19
  clear ex19 rx19 hx19
  have Rx19w : Hid (Row x19 gw cw r) := Rx18w.out.later bx19
  clear Rx18w
  have Rx19xx : Hid (Row x19 x3.heap.size nx (marks 1 nx)) := Rx18xx.out.later bx19
  clear Rx18xx
  have Rx19xi : Hid (Row x19 x4.heap.size ni (marks (1 + (nx : Int)) ni)) := Rx18xi.out.later bx19
  clear Rx18xi
  have Rx19g : Hid (Row x19 gg cg (marks 1 mg)) := Rx18g.out.later bx19
  clear Rx18g
  have Rx19hx : Hid (Row x19 x15.heap.size nx lx) := Rx18hx.out.later bx19
  clear Rx18hx
  have Rx19hi : Hid (Row x19 x17.heap.size ni li) := Nx18.out.later bx19
  clear Nx18
  have Bx19 : Hid (Below w.heap.size w x19) := Bx18.out.trans (bx19.mono Bx18.out.size)
  clear Bx18
  clear bx19
  have hmh : mh ≤ 1048576 := by rw [Eh.out]; exact HPL.out
  go_wp2_with fail
  refine (eqByteS _ _ mh ch mw cw r r _ Eh.out Ew.out Nx19.out.rd Rx19w.out.rd (by rw [← Eh.out]; omega) (by rw [← Ew.out]; omega)).mono ?_
  rintro e x20 ⟨rfl, mx20, dx20⟩
  have bx20 : Below x19.heap.size x19 x20 := by rw [dx20]; exact below_drewN (Below.refl _ _) _
  clear dx20
  have Rx20w : Hid (Row x20 gw cw r) := Rx19w.out.later bx20
  clear Rx19w
  have Rx20xx : Hid (Row x20 x3.heap.size nx (marks 1 nx)) := Rx19xx.out.later bx20
  clear Rx19xx
  have Rx20xi : Hid (Row x20 x4.heap.size ni (marks (1 + (nx : Int)) ni)) := Rx19xi.out.later bx20
  clear Rx19xi
  have Rx20g : Hid (Row x20 gg cg (marks 1 mg)) := Rx19g.out.later bx20
  clear Rx19g
  have Rx20hx : Hid (Row x20 x15.heap.size nx lx) := Rx19hx.out.later bx20
  clear Rx19hx
  have Rx20hi : Hid (Row x20 x17.heap.size ni li) := Rx19hi.out.later bx20
  clear Rx19hi
  have Rx20h : Hid (Row x20 gh ch r) := Nx19.out.later bx20
  clear Nx19
  have Bx20 : Hid (Below w.heap.size w x20) := Bx19.out.trans (bx20.mono Bx19.out.size)
  clear Bx19
  clear bx20
  go_wp2_with fail
  refine (heldByteS _ cg mg 1 _ Rx20g.out.rd (by omega) (by omega) (by omega)).mono ?_
  rintro e x21 ⟨rfl, rfl⟩
  go_wp2
  go_ret
  exact ⟨rfl, Bx20.out⟩

theorem walk (ax : Option Addr) (nx cx : Nat) (zx : List Int) (ai : Option Addr) (ni ci : Nat) (zi : List Int) (w : World) (hT : Tab w) (hx : IsRow .u8 w ax nx cx zx) (hi : IsRow .u8 w ai ni ci zi) :
    Calls Tryd.prog 5 #[.slice ax nx cx, .slice ai ni ci] w fun e w' => e = .returned (.bool true) ∧ Below w.heap.size w w' := by
  obtain ⟨lx, hlx, hrx, _, hbx⟩ := hx.read
  obtain ⟨li, hli, hri, _, hbi⟩ := hi.read
  by_cases hzx : nx ≤ 1048576
  · skip
    by_cases hzi : ni ≤ 1048576
    · skip
      exact small ax nx cx lx ai ni ci li w hT hlx hrx hbx hzx hli hri hbi hzi
    · have hgi : (1048576 : Int) < (ni : Int) := by omega
      have hxx : (nx : Int) ≤ 1048576 := by omega
      clear hx hlx hrx hbx hi hli hri hbi hzx hzi
      go_enter Tryd.func5, Tryd.ntmps5
      go_wp2
      go_ret
      exact ⟨rfl, Below.refl _ _⟩
  · have hgx : (1048576 : Int) < (nx : Int) := by omega
    clear hx hlx hrx hbx hi hli hri hbi hzx
    go_enter Tryd.func5, Tryd.ntmps5
    go_wp2
    go_ret
    exact ⟨rfl, Below.refl _ _⟩
end Go.Proofs.YthbaehkdlndgdaaDoor.LawExtract
