/-
  laws.FnExactMix answers true at every three slices of bytes, where the table of round words holds what the program's text lays into it; nothing that was there is written into.
-/
import Derived.Test.YtppckomiobablaaDoorStrI
import Derived.Test.YtppckomiobablaaDoorStrS
namespace Go.Proofs.YtppckomiobablaaDoor.LawMix
open Go.RowKit Go.Proofs.YtppckomiobablaaDoor.Mem Go.Proofs.YtppckomiobablaaDoor.MemI Go.Proofs.YtppckomiobablaaDoor.Blk Go.Proofs.YtppckomiobablaaDoor.App Go.Proofs.YtppckomiobablaaDoor.Get Go.Proofs.YtppckomiobablaaDoor.ShaP Go.Proofs.YtppckomiobablaaDoor.Word Go.Proofs.YtppckomiobablaaDoor.Bits Go.Proofs.YtppckomiobablaaDoor.Comp Go.Proofs.YtppckomiobablaaDoor.MacP Go.Proofs.YtppckomiobablaaDoor.KdfP Go.Proofs.YtppckomiobablaaDoor.StrI Go.Proofs.YtppckomiobablaaDoor.StrS

set_option maxRecDepth 100000 in
set_option maxHeartbeats 1600000 in
theorem small (ak : Option Addr) (nk ck : Nat) (lk : List Int) (ah : Option Addr) (nh ch : Nat) (lh : List Int) (ab : Option Addr) (nb cb : Nat) (lb : List Int) (w : World) (hT : Tab w) (hlk : nk = lk.length) (hrk : Rd w ak lk) (hbk : Bytes lk) (hzk : nk ≤ 1048576) (hlh : nh = lh.length) (hrh : Rd w ah lh) (hbh : Bytes lh) (hzh : nh ≤ 1048576) (hlb : nb = lb.length) (hrb : Rd w ab lb) (hbb : Bytes lb) (hzb : nb ≤ 1048576) :
    Calls Tryd.prog 7 #[.slice ak nk ck, .slice ah nh ch, .slice ab nb cb] w fun e w' => e = .returned (.bool true) ∧ Below w.heap.size w w' := by
  have HLk : Hid (nk = lk.length) := hlk
  have HRk : Hid (Rd w ak lk) := hrk
  have HYk : Hid (Bytes lk) := hbk
  have HLh : Hid (nh = lh.length) := hlh
  have HRh : Hid (Rd w ah lh) := hrh
  have HYh : Hid (Bytes lh) := hbh
  have HLb : Hid (nb = lb.length) := hlb
  have HRb : Hid (Rd w ab lb) := hrb
  have HYb : Hid (Bytes lb) := hbb
  have HT : Hid (Tab w) := hT
  obtain ⟨r, hr⟩ : ∃ r, mixI lk lh lb = r := ⟨_, rfl⟩
  have HPL : Hid (r.length ≤ 1048576) := by rw [← hr]; exact (Nat.le_trans (mixI_le lk lh lb) (by omega))
  have HO : Hid (mixI lk lh lb = r) := hr
  clear hr hT hlk hrk hbk hlh hrh hbh hlb hrb hbb
  have hqk : lk.length ≤ 1048576 := by rw [← HLk.out]; exact hzk
  have hqh : lh.length ≤ 1048576 := by rw [← HLh.out]; exact hzh
  have hqb : lb.length ≤ 1048576 := by rw [← HLb.out]; exact hzb
  go_enter Tryd.func7, Tryd.ntmps7
  go_wp2_with fail
  refine (toByteS ak nk ck lk _ HLk.out HRk.out (by omega)).mono ?_
  rintro e x1 ⟨rfl, rx1, bx1⟩
  have Nx1 : Hid (Row x1 w.heap.size nk lk) := rx1
  clear rx1
  have GEsk : Hid (w.heap.size ≤ w.heap.size) := (Nat.le_refl _)
  have Bx1 : Hid (Below w.heap.size w x1) := bx1
  clear bx1
  go_wp2_with fail
  refine (toByteS ah nh ch lh _ HLh.out (HRh.out.later Bx1.out (Nat.le_refl _)) (by omega)).mono ?_
  rintro e x2 ⟨rfl, rx2, bx2⟩
  have Nx2 : Hid (Row x2 x1.heap.size nh lh) := rx2
  clear rx2
  have NEsksh : Hid (w.heap.size ≠ x1.heap.size) := Nat.ne_of_lt (Nat.lt_of_lt_of_le Nx1.out.lt (Nat.le_refl _))
  have GEsh : Hid (w.heap.size ≤ x1.heap.size) := Nat.le_trans Bx1.out.size (Nat.le_refl _)
  have Rx2sk : Hid (Row x2 w.heap.size nk lk) := Nx1.out.later bx2
  clear Nx1
  have Bx2 : Hid (Below w.heap.size w x2) := Bx1.out.trans (bx2.mono Bx1.out.size)
  clear Bx1
  clear bx2
  go_wp2_with fail
  refine (toByteS ab nb cb lb _ HLb.out (HRb.out.later Bx2.out (Nat.le_refl _)) (by omega)).mono ?_
  rintro e x3 ⟨rfl, rx3, bx3⟩
  have Nx3 : Hid (Row x3 x2.heap.size nb lb) := rx3
  clear rx3
  have NEsksb : Hid (w.heap.size ≠ x2.heap.size) := Nat.ne_of_lt (Nat.lt_of_lt_of_le Rx2sk.out.lt (Nat.le_refl _))
  have NEshsb : Hid (x1.heap.size ≠ x2.heap.size) := Nat.ne_of_lt (Nat.lt_of_lt_of_le Nx2.out.lt (Nat.le_refl _))
  have GEsb : Hid (w.heap.size ≤ x2.heap.size) := Nat.le_trans Bx2.out.size (Nat.le_refl _)
  have Rx3sk : Hid (Row x3 w.heap.size nk lk) := Rx2sk.out.later bx3
  clear Rx2sk
  have Rx3sh : Hid (Row x3 x1.heap.size nh lh) := Nx2.out.later bx3
  clear Nx2
  have Bx3 : Hid (Below w.heap.size w x3) := Bx2.out.trans (bx3.mono Bx2.out.size)
  clear Bx2
  clear bx3
  go_wp2_with fail
  refine (specMix _ nk nk _ nh nh _ nb nb lk lh lb _  HLk.out HLh.out HLb.out Rx3sk.out.rd Rx3sh.out.rd Nx3.out.rd (by intro e; cases e) (by intro e; cases e) HYk.out HYh.out HYb.out (by omega) (by omega) (by omega)).mono ?_
  rw [HO.out]
  rintro e x4 ⟨gw, mw, cw, rfl, ex4, hx4, rx4, bx4⟩
  have Ew : Hid (mw = r.length) := ex4
  have Nx4 : Hid (Row x4 gw cw r) := rx4
  have NEskw : Hid (w.heap.size ≠ gw) := Nat.ne_of_lt (Nat.lt_of_lt_of_le Rx3sk.out.lt hx4)
  have NEshw : Hid (x1.heap.size ≠ gw) := Nat.ne_of_lt (Nat.lt_of_lt_of_le Rx3sh.out.lt hx4)
  have NEsbw : Hid (x2.heap.size ≠ gw) := Nat.ne_of_lt (Nat.lt_of_lt_of_le Nx3.out.lt hx4)
  have GEw : Hid (w.heap.size ≤ gw) := Nat.le_trans Bx3.out.size hx4
  clear ex4 rx4 hx4
  have Rx4sk : Hid (Row x4 w.heap.size nk lk) := Rx3sk.out.later bx4
  clear Rx3sk
  have Rx4sh : Hid (Row x4 x1.heap.size nh lh) := Rx3sh.out.later bx4
  clear Rx3sh
  have Rx4sb : Hid (Row x4 x2.heap.size nb lb) := Nx3.out.later bx4
  clear Nx3
  have Bx4 : Hid (Below w.heap.size w x4) := Bx3.out.trans (bx4.mono Bx3.out.size)
  clear Bx3
  clear bx4
  have hmw : mw ≤ 1048576 := by rw [Ew.out]; exact HPL.out
  clear Rx4sk
  clear Rx4sh
  clear Rx4sb
  go_wp2_with fail
  refine (toByteS ak nk ck lk _ HLk.out (HRk.out.later Bx4.out (Nat.le_refl _)) (by omega)).mono ?_
  rintro e x5 ⟨rfl, rx5, bx5⟩
  have Nx5 : Hid (Row x5 x4.heap.size nk lk) := rx5
  clear rx5
  have NEwxk : Hid (gw ≠ x4.heap.size) := Nat.ne_of_lt (Nat.lt_of_lt_of_le Nx4.out.lt (Nat.le_refl _))
  have GExk : Hid (w.heap.size ≤ x4.heap.size) := Nat.le_trans Bx4.out.size (Nat.le_refl _)
  have Rx5w : Hid (Row x5 gw cw r) := Nx4.out.later bx5
  clear Nx4
  have Bx5 : Hid (Below w.heap.size w x5) := Bx4.out.trans (bx5.mono Bx4.out.size)
  clear Bx4
  clear bx5
  go_wp2_with fail
  refine (toByteS ah nh ch lh _ HLh.out (HRh.out.later Bx5.out (Nat.le_refl _)) (by omega)).mono ?_
  rintro e x6 ⟨rfl, rx6, bx6⟩
  have Nx6 : Hid (Row x6 x5.heap.size nh lh) := rx6
  clear rx6
  have NEwxh : Hid (gw ≠ x5.heap.size) := Nat.ne_of_lt (Nat.lt_of_lt_of_le Rx5w.out.lt (Nat.le_refl _))
  have NExkxh : Hid (x4.heap.size ≠ x5.heap.size) := Nat.ne_of_lt (Nat.lt_of_lt_of_le Nx5.out.lt (Nat.le_refl _))
  have GExh : Hid (w.heap.size ≤ x5.heap.size) := Nat.le_trans Bx5.out.size (Nat.le_refl _)
  have Rx6w : Hid (Row x6 gw cw r) := Rx5w.out.later bx6
  clear Rx5w
  have Rx6xk : Hid (Row x6 x4.heap.size nk lk) := Nx5.out.later bx6
  clear Nx5
  have Bx6 : Hid (Below w.heap.size w x6) := Bx5.out.trans (bx6.mono Bx5.out.size)
  clear Bx5
  clear bx6
  go_wp2_with fail
  refine (toByteS ab nb cb lb _ HLb.out (HRb.out.later Bx6.out (Nat.le_refl _)) (by omega)).mono ?_
  rintro e x7 ⟨rfl, rx7, bx7⟩
  have Nx7 : Hid (Row x7 x6.heap.size nb lb) := rx7
  clear rx7
  have NEwxb : Hid (gw ≠ x6.heap.size) := Nat.ne_of_lt (Nat.lt_of_lt_of_le Rx6w.out.lt (Nat.le_refl _))
  have NExkxb : Hid (x4.heap.size ≠ x6.heap.size) := Nat.ne_of_lt (Nat.lt_of_lt_of_le Rx6xk.out.lt (Nat.le_refl _))
  have NExhxb : Hid (x5.heap.size ≠ x6.heap.size) := Nat.ne_of_lt (Nat.lt_of_lt_of_le Nx6.out.lt (Nat.le_refl _))
  have GExb : Hid (w.heap.size ≤ x6.heap.size) := Nat.le_trans Bx6.out.size (Nat.le_refl _)
  have Rx7w : Hid (Row x7 gw cw r) := Rx6w.out.later bx7
  clear Rx6w
  have Rx7xk : Hid (Row x7 x4.heap.size nk lk) := Rx6xk.out.later bx7
  clear Rx6xk
  have Rx7xh : Hid (Row x7 x5.heap.size nh lh) := Nx6.out.later bx7
  clear Nx6
  have Bx7 : Hid (Below w.heap.size w x7) := Bx6.out.trans (bx7.mono Bx6.out.size)
  clear Bx6
  clear bx7
  go_wp2_with fail
  refine (implMix _ nk nk _ nh nh _ nb nb lk lh lb _ (HT.out.later Bx7.out) HLk.out HLh.out HLb.out Rx7xk.out.rd Rx7xh.out.rd Nx7.out.rd (by intro e; cases e) (by intro e; cases e) HYk.out HYh.out HYb.out (by omega) (by omega) (by omega)).mono ?_
  rw [HO.out]
  rintro e x8 ⟨gg, mg, cg, rfl, ex8, hx8, rx8, bx8⟩
  have Eg : Hid (mg = r.length) := ex8
  have Nx8 : Hid (Row x8 gg cg r) := rx8
  have NEwg : Hid (gw ≠ gg) := Nat.ne_of_lt (Nat.lt_of_lt_of_le Rx7w.out.lt hx8)
  have NExkg : Hid (x4.heap.size ≠ gg) := Nat.ne_of_lt (Nat.lt_of_lt_of_le Rx7xk.out.lt hx8)
  have NExhg : Hid (x5.heap.size ≠ gg) := Nat.ne_of_lt (Nat.lt_of_lt_of_le Rx7xh.out.lt hx8)
  have NExbg : Hid (x6.heap.size ≠ gg) := Nat.ne_of_lt (Nat.lt_of_lt_of_le Nx7.out.lt hx8)
  have GEg : Hid (w.heap.size ≤ gg) := Nat.le_trans Bx7.out.size hx8
  clear ex8 rx8 hx8
  have Rx8w : Hid (Row x8 gw cw r) := Rx7w.out.later bx8
  clear Rx7w
  have Rx8xk : Hid (Row x8 x4.heap.size nk lk) := Rx7xk.out.later bx8
  clear Rx7xk
  have Rx8xh : Hid (Row x8 x5.heap.size nh lh) := Rx7xh.out.later bx8
  clear Rx7xh
  have Rx8xb : Hid (Row x8 x6.heap.size nb lb) := Nx7.out.later bx8
  clear Nx7
  have Bx8 : Hid (Below w.heap.size w x8) := Bx7.out.trans (bx8.mono Bx7.out.size)
  clear Bx7
  clear bx8
  have hmg : mg ≤ 1048576 := by rw [Eg.out]; exact HPL.out
  go_wp2_with fail
  refine (eqByteS _ _ mg cg mw cw r r _ Eg.out Ew.out Nx8.out.rd Rx8w.out.rd (by rw [← Eg.out]; omega) (by rw [← Ew.out]; omega)).mono ?_
  rintro e x9 ⟨rfl, mx9, dx9⟩
  have bx9 : Below x8.heap.size x8 x9 := by rw [dx9]; exact below_drewN (Below.refl _ _) _
  clear dx9
  have Rx9w : Hid (Row x9 gw cw r) := Rx8w.out.later bx9
  clear Rx8w
  have Rx9xk : Hid (Row x9 x4.heap.size nk lk) := Rx8xk.out.later bx9
  clear Rx8xk
  have Rx9xh : Hid (Row x9 x5.heap.size nh lh) := Rx8xh.out.later bx9
  clear Rx8xh
  have Rx9xb : Hid (Row x9 x6.heap.size nb lb) := Rx8xb.out.later bx9
  clear Rx8xb
  have Rx9g : Hid (Row x9 gg cg r) := Nx8.out.later bx9
  clear Nx8
  have Bx9 : Hid (Below w.heap.size w x9) := Bx8.out.trans (bx9.mono Bx8.out.size)
  clear Bx8
  clear bx9
  go_wp2_with fail
  refine (toByteS ak nk ck lk _ HLk.out (HRk.out.later Bx9.out (Nat.le_refl _)) (by omega)).mono ?_
  rintro e x10 ⟨rfl, rx10, bx10⟩
  have Nx10 : Hid (Row x10 x9.heap.size nk lk) := rx10
  clear rx10
  have NEwtk : Hid (gw ≠ x9.heap.size) := Nat.ne_of_lt (Nat.lt_of_lt_of_le Rx9w.out.lt (Nat.le_refl _))
  have NExktk : Hid (x4.heap.size ≠ x9.heap.size) := Nat.ne_of_lt (Nat.lt_of_lt_of_le Rx9xk.out.lt (Nat.le_refl _))
  have NExhtk : Hid (x5.heap.size ≠ x9.heap.size) := Nat.ne_of_lt (Nat.lt_of_lt_of_le Rx9xh.out.lt (Nat.le_refl _))
  have NExbtk : Hid (x6.heap.size ≠ x9.heap.size) := Nat.ne_of_lt (Nat.lt_of_lt_of_le Rx9xb.out.lt (Nat.le_refl _))
  have NEgtk : Hid (gg ≠ x9.heap.size) := Nat.ne_of_lt (Nat.lt_of_lt_of_le Rx9g.out.lt (Nat.le_refl _))
  have GEtk : Hid (w.heap.size ≤ x9.heap.size) := Nat.le_trans Bx9.out.size (Nat.le_refl _)
  have Rx10w : Hid (Row x10 gw cw r) := Rx9w.out.later bx10
  clear Rx9w
  have Rx10xk : Hid (Row x10 x4.heap.size nk lk) := Rx9xk.out.later bx10
  clear Rx9xk
  have Rx10xh : Hid (Row x10 x5.heap.size nh lh) := Rx9xh.out.later bx10
  clear Rx9xh
  have Rx10xb : Hid (Row x10 x6.heap.size nb lb) := Rx9xb.out.later bx10
  clear Rx9xb
  have Rx10g : Hid (Row x10 gg cg r) := Rx9g.out.later bx10
  clear Rx9g
  have Bx10 : Hid (Below w.heap.size w x10) := Bx9.out.trans (bx10.mono Bx9.out.size)
  clear Bx9
  clear bx10
  go_wp2_with fail
  refine (eqByteS _ _ nk nk nk nk lk lk _ HLk.out HLk.out Rx10xk.out.rd Nx10.out.rd (by omega) (by omega)).mono ?_
  rintro e x11 ⟨rfl, mx11, dx11⟩
  have bx11 : Below x10.heap.size x10 x11 := by rw [dx11]; exact below_drewN (Below.refl _ _) _
  clear dx11
  have Rx11w : Hid (Row x11 gw cw r) := Rx10w.out.later bx11
  clear Rx10w
  have Rx11xk : Hid (Row x11 x4.heap.size nk lk) := Rx10xk.out.later bx11
  clear Rx10xk
  have Rx11xh : Hid (Row x11 x5.heap.size nh lh) := Rx10xh.out.later bx11
  clear Rx10xh
  have Rx11xb : Hid (Row x11 x6.heap.size nb lb) := Rx10xb.out.later bx11
  clear Rx10xb
  have Rx11g : Hid (Row x11 gg cg r) := Rx10g.out.later bx11
  clear Rx10g
  have Rx11tk : Hid (Row x11 x9.heap.size nk lk) := Nx10.out.later bx11
  clear Nx10
  have Bx11 : Hid (Below w.heap.size w x11) := Bx10.out.trans (bx11.mono Bx10.out.size)
  clear Bx10
  clear bx11
  clear Rx11tk
  go_wp2_with fail
  refine (toByteS ah nh ch lh _ HLh.out (HRh.out.later Bx11.out (Nat.le_refl _)) (by omega)).mono ?_
  rintro e x12 ⟨rfl, rx12, bx12⟩
  have Nx12 : Hid (Row x12 x11.heap.size nh lh) := rx12
  clear rx12
  have NEwth : Hid (gw ≠ x11.heap.size) := Nat.ne_of_lt (Nat.lt_of_lt_of_le Rx11w.out.lt (Nat.le_refl _))
  have NExkth : Hid (x4.heap.size ≠ x11.heap.size) := Nat.ne_of_lt (Nat.lt_of_lt_of_le Rx11xk.out.lt (Nat.le_refl _))
  have NExhth : Hid (x5.heap.size ≠ x11.heap.size) := Nat.ne_of_lt (Nat.lt_of_lt_of_le Rx11xh.out.lt (Nat.le_refl _))
  have NExbth : Hid (x6.heap.size ≠ x11.heap.size) := Nat.ne_of_lt (Nat.lt_of_lt_of_le Rx11xb.out.lt (Nat.le_refl _))
  have NEgth : Hid (gg ≠ x11.heap.size) := Nat.ne_of_lt (Nat.lt_of_lt_of_le Rx11g.out.lt (Nat.le_refl _))
  have GEth : Hid (w.heap.size ≤ x11.heap.size) := Nat.le_trans Bx11.out.size (Nat.le_refl _)
  have Rx12w : Hid (Row x12 gw cw r) := Rx11w.out.later bx12
  clear Rx11w
  have Rx12xk : Hid (Row x12 x4.heap.size nk lk) := Rx11xk.out.later bx12
  clear Rx11xk
  have Rx12xh : Hid (Row x12 x5.heap.size nh lh) := Rx11xh.out.later bx12
  clear Rx11xh
  have Rx12xb : Hid (Row x12 x6.heap.size nb lb) := Rx11xb.out.later bx12
  clear Rx11xb
  have Rx12g : Hid (Row x12 gg cg r) := Rx11g.out.later bx12
  clear Rx11g
  have Bx12 : Hid (Below w.heap.size w x12) := Bx11.out.trans (bx12.mono Bx11.out.size)
  clear Bx11
  clear bx12
  go_wp2_with fail
  refine (eqByteS _ _ nh nh nh nh lh lh _ HLh.out HLh.out Rx12xh.out.rd Nx12.out.rd (by omega) (by omega)).mono ?_
  rintro e x13 ⟨rfl, mx13, dx13⟩
  have bx13 : Below x12.heap.size x12 x13 := by rw [dx13]; exact below_drewN (Below.refl _ _) _
  clear dx13
  have Rx13w : Hid (Row x13 gw cw r) := Rx12w.out.later bx13
  clear Rx12w
  have Rx13xk : Hid (Row x13 x4.heap.size nk lk) := Rx12xk.out.later bx13
  clear Rx12xk
  have Rx13xh : Hid (Row x13 x5.heap.size nh lh) := Rx12xh.out.later bx13
  clear Rx12xh
  have Rx13xb : Hid (Row x13 x6.heap.size nb lb) := Rx12xb.out.later bx13
  clear Rx12xb
  have Rx13g : Hid (Row x13 gg cg r) := Rx12g.out.later bx13
  clear Rx12g
  have Rx13th : Hid (Row x13 x11.heap.size nh lh) := Nx12.out.later bx13
  clear Nx12
  have Bx13 : Hid (Below w.heap.size w x13) := Bx12.out.trans (bx13.mono Bx12.out.size)
  clear Bx12
  clear bx13
  clear Rx13th
  go_wp2_with fail
  refine (toByteS ab nb cb lb _ HLb.out (HRb.out.later Bx13.out (Nat.le_refl _)) (by omega)).mono ?_
  rintro e x14 ⟨rfl, rx14, bx14⟩
  have Nx14 : Hid (Row x14 x13.heap.size nb lb) := rx14
  clear rx14
  have NEwtb : Hid (gw ≠ x13.heap.size) := Nat.ne_of_lt (Nat.lt_of_lt_of_le Rx13w.out.lt (Nat.le_refl _))
  have NExktb : Hid (x4.heap.size ≠ x13.heap.size) := Nat.ne_of_lt (Nat.lt_of_lt_of_le Rx13xk.out.lt (Nat.le_refl _))
  have NExhtb : Hid (x5.heap.size ≠ x13.heap.size) := Nat.ne_of_lt (Nat.lt_of_lt_of_le Rx13xh.out.lt (Nat.le_refl _))
  have NExbtb : Hid (x6.heap.size ≠ x13.heap.size) := Nat.ne_of_lt (Nat.lt_of_lt_of_le Rx13xb.out.lt (Nat.le_refl _))
  have NEgtb : Hid (gg ≠ x13.heap.size) := Nat.ne_of_lt (Nat.lt_of_lt_of_le Rx13g.out.lt (Nat.le_refl _))
  have GEtb : Hid (w.heap.size ≤ x13.heap.size) := Nat.le_trans Bx13.out.size (Nat.le_refl _)
  have Rx14w : Hid (Row x14 gw cw r) := Rx13w.out.later bx14
  clear Rx13w
  have Rx14xk : Hid (Row x14 x4.heap.size nk lk) := Rx13xk.out.later bx14
  clear Rx13xk
  have Rx14xh : Hid (Row x14 x5.heap.size nh lh) := Rx13xh.out.later bx14
  clear Rx13xh
  have Rx14xb : Hid (Row x14 x6.heap.size nb lb) := Rx13xb.out.later bx14
  clear Rx13xb
  have Rx14g : Hid (Row x14 gg cg r) := Rx13g.out.later bx14
  clear Rx13g
  have Bx14 : Hid (Below w.heap.size w x14) := Bx13.out.trans (bx14.mono Bx13.out.size)
  clear Bx13
  clear bx14
  go_wp2_with fail
  refine (eqByteS _ _ nb nb nb nb lb lb _ HLb.out HLb.out Rx14xb.out.rd Nx14.out.rd (by omega) (by omega)).mono ?_
  rintro e x15 ⟨rfl, mx15, dx15⟩
  have bx15 : Below x14.heap.size x14 x15 := by rw [dx15]; exact below_drewN (Below.refl _ _) _
  clear dx15
  have Rx15w : Hid (Row x15 gw cw r) := Rx14w.out.later bx15
  clear Rx14w
  have Rx15xk : Hid (Row x15 x4.heap.size nk lk) := Rx14xk.out.later bx15
  clear Rx14xk
  have Rx15xh : Hid (Row x15 x5.heap.size nh lh) := Rx14xh.out.later bx15
  clear Rx14xh
  have Rx15xb : Hid (Row x15 x6.heap.size nb lb) := Rx14xb.out.later bx15
  clear Rx14xb
  have Rx15g : Hid (Row x15 gg cg r) := Rx14g.out.later bx15
  clear Rx14g
  have Rx15tb : Hid (Row x15 x13.heap.size nb lb) := Nx14.out.later bx15
  clear Nx14
  have Bx15 : Hid (Below w.heap.size w x15) := Bx14.out.trans (bx15.mono Bx14.out.size)
  clear Bx14
  clear bx15
  clear Rx15tb
  go_wp2_with fail
  refine (markByteS x4.heap.size nk nk lk 1 _ HLk.out Rx15xk.out (by omega) (by omega) (by omega)).mono ?_
  rintro e x16 ⟨rfl, rx16, qx16⟩
  have Nx16 : Hid (Row x16 x4.heap.size nk (marks 1 nk)) := rx16
  clear rx16
  clear Rx15xk
  have Rx16w : Hid (Row x16 gw cw r) := Rx15w.out.keep (qx16.block _ Rx15w.out.lt (by simp only [ne_eq, Option.some.injEq]; exact NEwxk.out))
  clear Rx15w
  have Rx16xh : Hid (Row x16 x5.heap.size nh lh) := Rx15xh.out.keep (qx16.block _ Rx15xh.out.lt (by simp only [ne_eq, Option.some.injEq]; exact (Ne.symm NExkxh.out)))
  clear Rx15xh
  have Rx16xb : Hid (Row x16 x6.heap.size nb lb) := Rx15xb.out.keep (qx16.block _ Rx15xb.out.lt (by simp only [ne_eq, Option.some.injEq]; exact (Ne.symm NExkxb.out)))
  clear Rx15xb
  have Rx16g : Hid (Row x16 gg cg r) := Rx15g.out.keep (qx16.block _ Rx15g.out.lt (by simp only [ne_eq, Option.some.injEq]; exact (Ne.symm NExkg.out)))
  clear Rx15g
  have Bx16 : Hid (Below w.heap.size w x16) := Bx15.out.grown qx16 Bx15.out.size (fun k h => by cases h; exact GExk.out)
  clear Bx15 qx16
  go_wp2_with fail
  refine (markByteS x5.heap.size nh nh lh (1 + (nk : Int)) _ HLh.out Rx16xh.out (by omega) (by omega) (by omega)).mono ?_
  rintro e x17 ⟨rfl, rx17, qx17⟩
  have Nx17 : Hid (Row x17 x5.heap.size nh (marks (1 + (nk : Int)) nh)) := rx17
  clear rx17
  clear Rx16xh
  have Rx17w : Hid (Row x17 gw cw r) := Rx16w.out.keep (qx17.block _ Rx16w.out.lt (by simp only [ne_eq, Option.some.injEq]; exact NEwxh.out))
  clear Rx16w
  have Rx17xb : Hid (Row x17 x6.heap.size nb lb) := Rx16xb.out.keep (qx17.block _ Rx16xb.out.lt (by simp only [ne_eq, Option.some.injEq]; exact (Ne.symm NExhxb.out)))
  clear Rx16xb
  have Rx17g : Hid (Row x17 gg cg r) := Rx16g.out.keep (qx17.block _ Rx16g.out.lt (by simp only [ne_eq, Option.some.injEq]; exact (Ne.symm NExhg.out)))
  clear Rx16g
  have Rx17xk : Hid (Row x17 x4.heap.size nk (marks 1 nk)) := Nx16.out.keep (qx17.block _ Nx16.out.lt (by simp only [ne_eq, Option.some.injEq]; exact NExkxh.out))
  clear Nx16
  have Bx17 : Hid (Below w.heap.size w x17) := Bx16.out.grown qx17 Bx16.out.size (fun k h => by cases h; exact GExh.out)
  clear Bx16 qx17
  go_wp2_with fail
  refine (markByteS x6.heap.size nb nb lb (((1 + (nk : Int))) + (nh : Int)) _ HLb.out Rx17xb.out (by omega) (by omega) (by omega)).mono ?_
  rintro e x18 ⟨rfl, rx18, qx18⟩
  have Nx18 : Hid (Row x18 x6.heap.size nb (marks (((1 + (nk : Int))) + (nh : Int)) nb)) := rx18
  clear rx18
  clear Rx17xb
  have Rx18w : Hid (Row x18 gw cw r) := Rx17w.out.keep (qx18.block _ Rx17w.out.lt (by simp only [ne_eq, Option.some.injEq]; exact NEwxb.out))
  clear Rx17w
  have Rx18g : Hid (Row x18 gg cg r) := Rx17g.out.keep (qx18.block _ Rx17g.out.lt (by simp only [ne_eq, Option.some.injEq]; exact (Ne.symm NExbg.out)))
  clear Rx17g
  have Rx18xk : Hid (Row x18 x4.heap.size nk (marks 1 nk)) := Rx17xk.out.keep (qx18.block _ Rx17xk.out.lt (by simp only [ne_eq, Option.some.injEq]; exact NExkxb.out))
  clear Rx17xk
  have Rx18xh : Hid (Row x18 x5.heap.size nh (marks (1 + (nk : Int)) nh)) := Nx17.out.keep (qx18.block _ Nx17.out.lt (by simp only [ne_eq, Option.some.injEq]; exact NExhxb.out))
  clear Nx17
  have Bx18 : Hid (Below w.heap.size w x18) := Bx17.out.grown qx18 Bx17.out.size (fun k h => by cases h; exact GExb.out)
  clear Bx17 qx18
  go_wp2_with fail
  refine (eqByteS _ _ mg cg mw cw r r _ Eg.out Ew.out Rx18g.out.rd Rx18w.out.rd (by rw [← Eg.out]; omega) (by rw [← Ew.out]; omega)).mono ?_
  rintro e x19 ⟨rfl, mx19, dx19⟩
  have bx19 : Below x18.heap.size x18 x19 := by rw [dx19]; exact below_drewN (Below.refl _ _) _
  clear dx19
  have Rx19w : Hid (Row x19 gw cw r) := Rx18w.out.later bx19
  clear Rx18w
  have Rx19g : Hid (Row x19 gg cg r) := Rx18g.out.later bx19
  clear Rx18g
  have Rx19xk : Hid (Row x19 x4.heap.size nk (marks 1 nk)) := Rx18xk.out.later bx19
  clear Rx18xk
  have Rx19xh : Hid (Row x19 x5.heap.size nh (marks (1 + (nk : Int)) nh)) := Rx18xh.out.later bx19
  clear Rx18xh
  have Rx19xb : Hid (Row x19 x6.heap.size nb (marks (((1 + (nk : Int))) + (nh : Int)) nb)) := Nx18.out.later bx19
  clear Nx18
  have Bx19 : Hid (Below w.heap.size w x19) := Bx18.out.trans (bx19.mono Bx18.out.size)
  clear Bx18
  clear bx19
  go_wp2_with fail
  refine (markByteS gg mg cg r 1 _ Eg.out Rx19g.out (by rw [← Eg.out]; omega) (by omega) (by omega)).mono ?_
  rintro e x20 ⟨rfl, rx20, qx20⟩
  have Nx20 : Hid (Row x20 gg cg (marks 1 mg)) := rx20
  clear rx20
  clear Rx19g
  have Rx20w : Hid (Row x20 gw cw r) := Rx19w.out.keep (qx20.block _ Rx19w.out.lt (by simp only [ne_eq, Option.some.injEq]; exact NEwg.out))
  clear Rx19w
  have Rx20xk : Hid (Row x20 x4.heap.size nk (marks 1 nk)) := Rx19xk.out.keep (qx20.block _ Rx19xk.out.lt (by simp only [ne_eq, Option.some.injEq]; exact NExkg.out))
  clear Rx19xk
  have Rx20xh : Hid (Row x20 x5.heap.size nh (marks (1 + (nk : Int)) nh)) := Rx19xh.out.keep (qx20.block _ Rx19xh.out.lt (by simp only [ne_eq, Option.some.injEq]; exact NExhg.out))
  clear Rx19xh
  have Rx20xb : Hid (Row x20 x6.heap.size nb (marks (((1 + (nk : Int))) + (nh : Int)) nb)) := Rx19xb.out.keep (qx20.block _ Rx19xb.out.lt (by simp only [ne_eq, Option.some.injEq]; exact NExbg.out))
  clear Rx19xb
  have Bx20 : Hid (Below w.heap.size w x20) := Bx19.out.grown qx20 Bx19.out.size (fun k h => by cases h; exact GEg.out)
  clear Bx19 qx20
  go_wp2_with fail
  refine (heldByteS _ cg mg 1 _ Nx20.out.rd (by omega) (by omega) (by omega)).mono ?_
  rintro e x21 ⟨rfl, rfl⟩
  go_wp2_with fail
  refine (toByteS ak nk ck lk _ HLk.out (HRk.out.later Bx20.out (Nat.le_refl _)) (by omega)).mono ?_
  rintro e x22 ⟨rfl, rx22, bx22⟩
  have Nx22 : Hid (Row x22 x20.heap.size nk lk) := rx22
  clear rx22
  have NEwhk : Hid (gw ≠ x20.heap.size) := Nat.ne_of_lt (Nat.lt_of_lt_of_le Rx20w.out.lt (Nat.le_refl _))
  have NExkhk : Hid (x4.heap.size ≠ x20.heap.size) := Nat.ne_of_lt (Nat.lt_of_lt_of_le Rx20xk.out.lt (Nat.le_refl _))
  have NExhhk : Hid (x5.heap.size ≠ x20.heap.size) := Nat.ne_of_lt (Nat.lt_of_lt_of_le Rx20xh.out.lt (Nat.le_refl _))
  have NExbhk : Hid (x6.heap.size ≠ x20.heap.size) := Nat.ne_of_lt (Nat.lt_of_lt_of_le Rx20xb.out.lt (Nat.le_refl _))
  have NEghk : Hid (gg ≠ x20.heap.size) := Nat.ne_of_lt (Nat.lt_of_lt_of_le Nx20.out.lt (Nat.le_refl _))
  have GEhk : Hid (w.heap.size ≤ x20.heap.size) := Nat.le_trans Bx20.out.size (Nat.le_refl _)
  have Rx22w : Hid (Row x22 gw cw r) := Rx20w.out.later bx22
  clear Rx20w
  have Rx22xk : Hid (Row x22 x4.heap.size nk (marks 1 nk)) := Rx20xk.out.later bx22
  clear Rx20xk
  have Rx22xh : Hid (Row x22 x5.heap.size nh (marks (1 + (nk : Int)) nh)) := Rx20xh.out.later bx22
  clear Rx20xh
  have Rx22xb : Hid (Row x22 x6.heap.size nb (marks (((1 + (nk : Int))) + (nh : Int)) nb)) := Rx20xb.out.later bx22
  clear Rx20xb
  have Rx22g : Hid (Row x22 gg cg (marks 1 mg)) := Nx20.out.later bx22
  clear Nx20
  have Bx22 : Hid (Below w.heap.size w x22) := Bx20.out.trans (bx22.mono Bx20.out.size)
  clear Bx20
  clear bx22
  go_wp2_with fail
  refine (toByteS ah nh ch lh _ HLh.out (HRh.out.later Bx22.out (Nat.le_refl _)) (by omega)).mono ?_
  rintro e x23 ⟨rfl, rx23, bx23⟩
  have Nx23 : Hid (Row x23 x22.heap.size nh lh) := rx23
  clear rx23
  have NEwhh : Hid (gw ≠ x22.heap.size) := Nat.ne_of_lt (Nat.lt_of_lt_of_le Rx22w.out.lt (Nat.le_refl _))
  have NExkhh : Hid (x4.heap.size ≠ x22.heap.size) := Nat.ne_of_lt (Nat.lt_of_lt_of_le Rx22xk.out.lt (Nat.le_refl _))
  have NExhhh : Hid (x5.heap.size ≠ x22.heap.size) := Nat.ne_of_lt (Nat.lt_of_lt_of_le Rx22xh.out.lt (Nat.le_refl _))
  have NExbhh : Hid (x6.heap.size ≠ x22.heap.size) := Nat.ne_of_lt (Nat.lt_of_lt_of_le Rx22xb.out.lt (Nat.le_refl _))
  have NEghh : Hid (gg ≠ x22.heap.size) := Nat.ne_of_lt (Nat.lt_of_lt_of_le Rx22g.out.lt (Nat.le_refl _))
  have NEhkhh : Hid (x20.heap.size ≠ x22.heap.size) := Nat.ne_of_lt (Nat.lt_of_lt_of_le Nx22.out.lt (Nat.le_refl _))
  have GEhh : Hid (w.heap.size ≤ x22.heap.size) := Nat.le_trans Bx22.out.size (Nat.le_refl _)
  have Rx23w : Hid (Row x23 gw cw r) := Rx22w.out.later bx23
  clear Rx22w
  have Rx23xk : Hid (Row x23 x4.heap.size nk (marks 1 nk)) := Rx22xk.out.later bx23
  clear Rx22xk
  have Rx23xh : Hid (Row x23 x5.heap.size nh (marks (1 + (nk : Int)) nh)) := Rx22xh.out.later bx23
  clear Rx22xh
  have Rx23xb : Hid (Row x23 x6.heap.size nb (marks (((1 + (nk : Int))) + (nh : Int)) nb)) := Rx22xb.out.later bx23
  clear Rx22xb
  have Rx23g : Hid (Row x23 gg cg (marks 1 mg)) := Rx22g.out.later bx23
  clear Rx22g
  have Rx23hk : Hid (Row x23 x20.heap.size nk lk) := Nx22.out.later bx23
  clear Nx22
  have Bx23 : Hid (Below w.heap.size w x23) := Bx22.out.trans (bx23.mono Bx22.out.size)
  clear Bx22
  clear bx23
  go_wp2_with fail
  refine (toByteS ab nb cb lb _ HLb.out (HRb.out.later Bx23.out (Nat.le_refl _)) (by omega)).mono ?_
  rintro e x24 ⟨rfl, rx24, bx24⟩
  have Nx24 : Hid (Row x24 x23.heap.size nb lb) := rx24
  clear rx24
  have NEwhb : Hid (gw ≠ x23.heap.size) := Nat.ne_of_lt (Nat.lt_of_lt_of_le Rx23w.out.lt (Nat.le_refl _))
  have NExkhb : Hid (x4.heap.size ≠ x23.heap.size) := Nat.ne_of_lt (Nat.lt_of_lt_of_le Rx23xk.out.lt (Nat.le_refl _))
  have NExhhb : Hid (x5.heap.size ≠ x23.heap.size) := Nat.ne_of_lt (Nat.lt_of_lt_of_le Rx23xh.out.lt (Nat.le_refl _))
  have NExbhb : Hid (x6.heap.size ≠ x23.heap.size) := Nat.ne_of_lt (Nat.lt_of_lt_of_le Rx23xb.out.lt (Nat.le_refl _))
  have NEghb : Hid (gg ≠ x23.heap.size) := Nat.ne_of_lt (Nat.lt_of_lt_of_le Rx23g.out.lt (Nat.le_refl _))
  have NEhkhb : Hid (x20.heap.size ≠ x23.heap.size) := Nat.ne_of_lt (Nat.lt_of_lt_of_le Rx23hk.out.lt (Nat.le_refl _))
  have NEhhhb : Hid (x22.heap.size ≠ x23.heap.size) := Nat.ne_of_lt (Nat.lt_of_lt_of_le Nx23.out.lt (Nat.le_refl _))
  have GEhb : Hid (w.heap.size ≤ x23.heap.size) := Nat.le_trans Bx23.out.size (Nat.le_refl _)
  have Rx24w : Hid (Row x24 gw cw r) := Rx23w.out.later bx24
  clear Rx23w
  have Rx24xk : Hid (Row x24 x4.heap.size nk (marks 1 nk)) := Rx23xk.out.later bx24
  clear Rx23xk
  have Rx24xh : Hid (Row x24 x5.heap.size nh (marks (1 + (nk : Int)) nh)) := Rx23xh.out.later bx24
  clear Rx23xh
  have Rx24xb : Hid (Row x24 x6.heap.size nb (marks (((1 + (nk : Int))) + (nh : Int)) nb)) := Rx23xb.out.later bx24
  clear Rx23xb
  have Rx24g : Hid (Row x24 gg cg (marks 1 mg)) := Rx23g.out.later bx24
  clear Rx23g
  have Rx24hk : Hid (Row x24 x20.heap.size nk lk) := Rx23hk.out.later bx24
  clear Rx23hk
  have Rx24hh : Hid (Row x24 x22.heap.size nh lh) := Nx23.out.later bx24
  clear Nx23
  have Bx24 : Hid (Below w.heap.size w x24) := Bx23.out.trans (bx24.mono Bx23.out.size)
  clear Bx23
  clear bx24
  go_wp2_with fail
  refine (implMix _ nk nk _ nh nh _ nb nb lk lh lb _ (HT.out.later Bx24.out) HLk.out HLh.out HLb.out Rx24hk.out.rd Rx24hh.out.rd Nx24.out.rd (by intro e; cases e) (by intro e; cases e) HYk.out HYh.out HYb.out (by omega) (by omega) (by omega)).mono ?_
  rw [HO.out]
  rintro e x25 ⟨gh, mh, ch, rfl, ex25, hx25, rx25, bx25⟩
  have Eh : Hid (mh = r.length) := ex25
  have Nx25 : Hid (Row x25 gh ch r) := rx25
  have NEwh : Hid (gw ≠ gh) := Nat.ne_of_lt (Nat.lt_of_lt_of_le Rx24w.out.lt hx25)
  have NExkh : Hid (x4.heap.size ≠ gh) := Nat.ne_of_lt (Nat.lt_of_lt_of_le Rx24xk.out.lt hx25)
  have NExhh : Hid (x5.heap.size ≠ gh) := Nat.ne_of_lt (Nat.lt_of_lt_of_le Rx24xh.out.lt hx25)
  have NExbh : Hid (x6.heap.size ≠ gh) := Nat.ne_of_lt (Nat.lt_of_lt_of_le Rx24xb.out.lt hx25)
  have NEgh : Hid (gg ≠ gh) := Nat.ne_of_lt (Nat.lt_of_lt_of_le Rx24g.out.lt hx25)
  have NEhkh : Hid (x20.heap.size ≠ gh) := Nat.ne_of_lt (Nat.lt_of_lt_of_le Rx24hk.out.lt hx25)
  have NEhhh : Hid (x22.heap.size ≠ gh) := Nat.ne_of_lt (Nat.lt_of_lt_of_le Rx24hh.out.lt hx25)
  have NEhbh : Hid (x23.heap.size ≠ gh) := Nat.ne_of_lt (Nat.lt_of_lt_of_le Nx24.out.lt hx25)
  have GEh : Hid (w.heap.size ≤ gh) := Nat.le_trans Bx24.out.size hx25
  clear ex25 rx25 hx25
  have Rx25w : Hid (Row x25 gw cw r) := Rx24w.out.later bx25
  clear Rx24w
  have Rx25xk : Hid (Row x25 x4.heap.size nk (marks 1 nk)) := Rx24xk.out.later bx25
  clear Rx24xk
  have Rx25xh : Hid (Row x25 x5.heap.size nh (marks (1 + (nk : Int)) nh)) := Rx24xh.out.later bx25
  clear Rx24xh
  have Rx25xb : Hid (Row x25 x6.heap.size nb (marks (((1 + (nk : Int))) + (nh : Int)) nb)) := Rx24xb.out.later bx25
  clear Rx24xb
  have Rx25g : Hid (Row x25 gg cg (marks 1 mg)) := Rx24g.out.later bx25
  clear Rx24g
  have Rx25hk : Hid (Row x25 x20.heap.size nk lk) := Rx24hk.out.later bx25
  clear Rx24hk
  have Rx25hh : Hid (Row x25 x22.heap.size nh lh) := Rx24hh.out.later bx25
  clear Rx24hh
  have Rx25hb : Hid (Row x25 x23.heap.size nb lb) := Nx24.out.later bx25
  clear Nx24
  have Bx25 : Hid (Below w.heap.size w x25) := Bx24.out.trans (bx25.mono Bx24.out.size)
  clear Bx24
  clear bx25
  have hmh : mh ≤ 1048576 := by rw [Eh.out]; exact HPL.out
  go_wp2_with fail
  refine (eqByteS _ _ mh ch mw cw r r _ Eh.out Ew.out Nx25.out.rd Rx25w.out.rd (by rw [← Eh.out]; omega) (by rw [← Ew.out]; omega)).mono ?_
  rintro e x26 ⟨rfl, mx26, dx26⟩
  have bx26 : Below x25.heap.size x25 x26 := by rw [dx26]; exact below_drewN (Below.refl _ _) _
  clear dx26
  have Rx26w : Hid (Row x26 gw cw r) := Rx25w.out.later bx26
  clear Rx25w
  have Rx26xk : Hid (Row x26 x4.heap.size nk (marks 1 nk)) := Rx25xk.out.later bx26
  clear Rx25xk
  have Rx26xh : Hid (Row x26 x5.heap.size nh (marks (1 + (nk : Int)) nh)) := Rx25xh.out.later bx26
  clear Rx25xh
  have Rx26xb : Hid (Row x26 x6.heap.size nb (marks (((1 + (nk : Int))) + (nh : Int)) nb)) := Rx25xb.out.later bx26
  clear Rx25xb
  have Rx26g : Hid (Row x26 gg cg (marks 1 mg)) := Rx25g.out.later bx26
  clear Rx25g
  have Rx26hk : Hid (Row x26 x20.heap.size nk lk) := Rx25hk.out.later bx26
  clear Rx25hk
  have Rx26hh : Hid (Row x26 x22.heap.size nh lh) := Rx25hh.out.later bx26
  clear Rx25hh
  have Rx26hb : Hid (Row x26 x23.heap.size nb lb) := Rx25hb.out.later bx26
  clear Rx25hb
  have Rx26h : Hid (Row x26 gh ch r) := Nx25.out.later bx26
  clear Nx25
  have Bx26 : Hid (Below w.heap.size w x26) := Bx25.out.trans (bx26.mono Bx25.out.size)
  clear Bx25
  clear bx26
  go_wp2_with fail
  refine (heldByteS _ cg mg 1 _ Rx26g.out.rd (by omega) (by omega) (by omega)).mono ?_
  rintro e x27 ⟨rfl, rfl⟩
  go_wp2
  go_ret
  exact ⟨rfl, Bx26.out⟩

theorem walk (ak : Option Addr) (nk ck : Nat) (zk : List Int) (ah : Option Addr) (nh ch : Nat) (zh : List Int) (ab : Option Addr) (nb cb : Nat) (zb : List Int) (w : World) (hT : Tab w) (hk : IsRow .u8 w ak nk ck zk) (hh : IsRow .u8 w ah nh ch zh) (hb : IsRow .u8 w ab nb cb zb) :
    Calls Tryd.prog 7 #[.slice ak nk ck, .slice ah nh ch, .slice ab nb cb] w fun e w' => e = .returned (.bool true) ∧ Below w.heap.size w w' := by
  obtain ⟨lk, hlk, hrk, _, hbk⟩ := hk.read
  obtain ⟨lh, hlh, hrh, _, hbh⟩ := hh.read
  obtain ⟨lb, hlb, hrb, _, hbb⟩ := hb.read
  by_cases hzk : nk ≤ 1048576
  · skip
    by_cases hzh : nh ≤ 1048576
    · skip
      by_cases hzb : nb ≤ 1048576
      · skip
        exact small ak nk ck lk ah nh ch lh ab nb cb lb w hT hlk hrk hbk hzk hlh hrh hbh hzh hlb hrb hbb hzb
      · have hgb : (1048576 : Int) < (nb : Int) := by omega
        have hxk : (nk : Int) ≤ 1048576 := by omega
        have hxh : (nh : Int) ≤ 1048576 := by omega
        clear hk hlk hrk hbk hh hlh hrh hbh hb hlb hrb hbb hzk hzh hzb
        go_enter Tryd.func7, Tryd.ntmps7
        go_wp2
        go_ret
        exact ⟨rfl, Below.refl _ _⟩
    · have hgh : (1048576 : Int) < (nh : Int) := by omega
      have hxk : (nk : Int) ≤ 1048576 := by omega
      clear hk hlk hrk hbk hh hlh hrh hbh hb hlb hrb hbb hzk hzh
      go_enter Tryd.func7, Tryd.ntmps7
      go_wp2
      go_ret
      exact ⟨rfl, Below.refl _ _⟩
  · have hgk : (1048576 : Int) < (nk : Int) := by omega
    clear hk hlk hrk hbk hh hlh hrh hbh hb hlb hrb hbb hzk
    go_enter Tryd.func7, Tryd.ntmps7
    go_wp2
    go_ret
    exact ⟨rfl, Below.refl _ _⟩
end Go.Proofs.YtppckomiobablaaDoor.LawMix
