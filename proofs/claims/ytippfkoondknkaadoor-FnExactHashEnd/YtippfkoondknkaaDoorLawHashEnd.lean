/-
  laws.FnExactHashEnd answers true at every hash, where the table of round words holds what the program's text lays into it; nothing that was there is written into.
-/
import Derived.Test.YtippfkoondknkaaDoorHashD
namespace Go.Proofs.YtippfkoondknkaaDoor.LawHashEnd
open Go.RowKit Go.Proofs.YtippfkoondknkaaDoor.Mem Go.Proofs.YtippfkoondknkaaDoor.MemI Go.Proofs.YtippfkoondknkaaDoor.Blk Go.Proofs.YtippfkoondknkaaDoor.App Go.Proofs.YtippfkoondknkaaDoor.ShaP Go.Proofs.YtippfkoondknkaaDoor.Hashs Go.Proofs.YtippfkoondknkaaDoor.HashH Go.Proofs.YtippfkoondknkaaDoor.HashO Go.Proofs.YtippfkoondknkaaDoor.HashS Go.Proofs.YtippfkoondknkaaDoor.HashE Go.Proofs.YtippfkoondknkaaDoor.HashD Go.Proofs.YtippfkoondknkaaDoor.WordsOf Go.Proofs.YtippfkoondknkaaDoor.Comp

set_option maxHeartbeats 1600000 in
theorem small (a0 : Option Addr) (n0 c0 : Nat) (a1 : Option Addr) (n1 c1 : Nat) (N : Int) (lh lb : List Int) (w : World) (hT : Tab w) (hl0 : n0 = lh.length) (hl1 : n1 = lb.length) (hr0 : IRd w a0 lh) (hr1 : Rd w a1 lb) (hsz : n0 + n1 ≤ 1048576) (hb1 : Bytes lb) :
    Calls Tryd.prog 9 #[hashV a0 n0 c0 a1 n1 c1 N] w fun e w' => e = .returned (.bool true) ∧ Below w.heap.size w w' := by
  have HT : Hid (Tab w) := hT
  have HBy : Hid (Bytes lb) := hb1
  clear hT hb1
  have HL0 : Hid (n0 = lh.length) := hl0
  have HL1 : Hid (n1 = lb.length) := hl1
  have HR0 : Hid (IRd w a0 lh) := hr0
  have HR1 : Hid (Rd w a1 lb) := hr1
  clear hl0 hl1 hr0 hr1
  unfold hashV
  obtain ⟨r, hr⟩ : ∃ r, endI lh lb N = r := ⟨_, rfl⟩
  have HPL : Hid (r.length ≤ 1048576) := by rw [← hr]; exact endI_length lh lb N
  have HO : Hid (endI lh lb N = r) := hr
  clear hr
  go_enter Tryd.func9, Tryd.ntmps9
  obtain ⟨x1, hx1⟩ : ∃ x1, w.alloc (.cells #[.slice a0 n0 c0, .slice a1 n1 c1, .int .i64 N] 51) = x1 := ⟨_, rfl⟩
  have HWx1 : Hid (w.alloc (.cells #[.slice a0 n0 c0, .slice a1 n1 c1, .int .i64 N] 51) = x1) := hx1
  have Nx1 : Hid (Blk x1 w.heap.size 51 [.slice a0 n0 c0, .slice a1 n1 c1, .int .i64 N]) := by rw [← hx1]; exact Blk.new w 51 [.slice a0 n0 c0, .slice a1 n1 c1, .int .i64 N]
  have bx1 : Below w.heap.size w x1 := by rw [← hx1]; exact (Below.refl _ _).alloc (Nat.le_refl _) _
  have bx1 : Hid (Below w.heap.size w x1) := bx1
  clear hx1
  go_wp2_with fail
  rw [HWx1.out]
  have GEaK : Hid (w.heap.size ≤ w.heap.size) := (Nat.le_refl _)
  have bx1 := bx1.out
  have Bx1 : Hid (Below w.heap.size w x1) := bx1
  clear bx1
  refine (szSmall a0 n0 c0 a1 n1 c1 N _ hsz).mono ?_
  rintro e x2 ⟨rfl, bx2⟩
  have Rx2aK : Hid (Blk x2 w.heap.size 51 [.slice a0 n0 c0, .slice a1 n1 c1, .int .i64 N]) := Nx1.out.later bx2
  clear Nx1
  have Bx2 : Hid (Below w.heap.size w x2) := Bx1.out.trans (bx2.mono Bx1.out.size)
  clear Bx1
  clear bx2
  have bxaK0 := Rx2aK.out.cell 0 rfl
  have bxaK1 := Rx2aK.out.cell 1 rfl
  have bxaK2 := Rx2aK.out.cell 2 rfl
  go_wp2_with fail
  clear bxaK0 bxaK1 bxaK2
  refine (toHash a0 n0 c0 a1 n1 c1 N lh lb _ HL0.out HL1.out (HR0.out.later Bx2.out (Nat.le_refl _)) (HR1.out.later Bx2.out (Nat.le_refl _)) (by omega) (by omega)).mono ?_
  rintro e x3 ⟨ghs, gbs, rfl, px3, qx3, nex3, rhx3, rbx3, bx3⟩
  have Nx3H : Hid (IRow x3 ghs n0 lh) := rhx3
  have Nx3B : Hid (Row x3 gbs n1 lb) := rbx3
  have NEsHsB : Hid (ghs ≠ gbs) := nex3
  have NEaKsH : Hid (w.heap.size ≠ ghs) := Nat.ne_of_lt (Nat.lt_of_lt_of_le Rx2aK.out.lt px3)
  have GEsH : Hid (w.heap.size ≤ ghs) := Nat.le_trans Bx2.out.size px3
  have NEaKsB : Hid (w.heap.size ≠ gbs) := Nat.ne_of_lt (Nat.lt_of_lt_of_le Rx2aK.out.lt qx3)
  have GEsB : Hid (w.heap.size ≤ gbs) := Nat.le_trans Bx2.out.size qx3
  clear rhx3 rbx3 px3 qx3 nex3
  have Rx3aK : Hid (Blk x3 w.heap.size 51 [.slice a0 n0 c0, .slice a1 n1 c1, .int .i64 N]) := Rx2aK.out.later bx3
  clear Rx2aK
  have Bx3 : Hid (Below w.heap.size w x3) := Bx2.out.trans (bx3.mono Bx2.out.size)
  clear Bx2
  clear bx3
  unfold hashV
  have bxaK0 := Rx3aK.out.cell 0 rfl
  have bxaK1 := Rx3aK.out.cell 1 rfl
  have bxaK2 := Rx3aK.out.cell 2 rfl
  go_wp2_with fail
  clear bxaK0 bxaK1 bxaK2
  refine (specHashEnd _ n0 n0 _ n1 n1 N lh lb _ HL0.out HL1.out Nx3H.out.rd (by intro e; cases e) Nx3B.out.rd HBy.out (by omega) (by omega)).mono ?_
  rw [HO.out]
  rintro e x4 ⟨gw, mw, cw, rfl, ex4, hx4, rx4, bx4⟩
  have Ew : Hid (mw = r.length) := ex4
  have Nx4 : Hid (Row x4 gw cw r) := rx4
  have NEaKw : Hid (w.heap.size ≠ gw) := Nat.ne_of_lt (Nat.lt_of_lt_of_le Rx3aK.out.lt hx4)
  have NEsHw : Hid (ghs ≠ gw) := Nat.ne_of_lt (Nat.lt_of_lt_of_le Nx3H.out.lt hx4)
  have NEsBw : Hid (gbs ≠ gw) := Nat.ne_of_lt (Nat.lt_of_lt_of_le Nx3B.out.lt hx4)
  have GEw : Hid (w.heap.size ≤ gw) := Nat.le_trans Bx3.out.size hx4
  clear ex4 rx4 hx4
  have Rx4aK : Hid (Blk x4 w.heap.size 51 [.slice a0 n0 c0, .slice a1 n1 c1, .int .i64 N]) := Rx3aK.out.later bx4
  clear Rx3aK
  have Rx4sH : Hid (IRow x4 ghs n0 lh) := Nx3H.out.later bx4
  clear Nx3H
  have Rx4sB : Hid (Row x4 gbs n1 lb) := Nx3B.out.later bx4
  clear Nx3B
  have Bx4 : Hid (Below w.heap.size w x4) := Bx3.out.trans (bx4.mono Bx3.out.size)
  clear Bx3
  clear bx4
  have hmw : mw ≤ 1048576 := by rw [Ew.out]; exact HPL.out
  clear Rx4sH
  clear Rx4sB
  have bxaK0 := Rx4aK.out.cell 0 rfl
  have bxaK1 := Rx4aK.out.cell 1 rfl
  have bxaK2 := Rx4aK.out.cell 2 rfl
  go_wp2_with fail
  clear bxaK0 bxaK1 bxaK2
  refine (toHash a0 n0 c0 a1 n1 c1 N lh lb _ HL0.out HL1.out (HR0.out.later Bx4.out (Nat.le_refl _)) (HR1.out.later Bx4.out (Nat.le_refl _)) (by omega) (by omega)).mono ?_
  rintro e x5 ⟨ghx, gbx, rfl, px5, qx5, nex5, rhx5, rbx5, bx5⟩
  have Nx5H : Hid (IRow x5 ghx n0 lh) := rhx5
  have Nx5B : Hid (Row x5 gbx n1 lb) := rbx5
  have NExHxB : Hid (ghx ≠ gbx) := nex5
  have NEaKxH : Hid (w.heap.size ≠ ghx) := Nat.ne_of_lt (Nat.lt_of_lt_of_le Rx4aK.out.lt px5)
  have NEwxH : Hid (gw ≠ ghx) := Nat.ne_of_lt (Nat.lt_of_lt_of_le Nx4.out.lt px5)
  have GExH : Hid (w.heap.size ≤ ghx) := Nat.le_trans Bx4.out.size px5
  have NEaKxB : Hid (w.heap.size ≠ gbx) := Nat.ne_of_lt (Nat.lt_of_lt_of_le Rx4aK.out.lt qx5)
  have NEwxB : Hid (gw ≠ gbx) := Nat.ne_of_lt (Nat.lt_of_lt_of_le Nx4.out.lt qx5)
  have GExB : Hid (w.heap.size ≤ gbx) := Nat.le_trans Bx4.out.size qx5
  clear rhx5 rbx5 px5 qx5 nex5
  have Rx5aK : Hid (Blk x5 w.heap.size 51 [.slice a0 n0 c0, .slice a1 n1 c1, .int .i64 N]) := Rx4aK.out.later bx5
  clear Rx4aK
  have Rx5w : Hid (Row x5 gw cw r) := Nx4.out.later bx5
  clear Nx4
  have Bx5 : Hid (Below w.heap.size w x5) := Bx4.out.trans (bx5.mono Bx4.out.size)
  clear Bx4
  clear bx5
  unfold hashV
  have bxaK0 := Rx5aK.out.cell 0 rfl
  have bxaK1 := Rx5aK.out.cell 1 rfl
  have bxaK2 := Rx5aK.out.cell 2 rfl
  have axaK0 := (Rx5aK.out.alloc (.cells #[.slice (some ⟨ghx, 0, none⟩) n0 n0, .slice (some ⟨gbx, 0, none⟩) n1 n1, .int .i64 N] 27)).cell 0 rfl
  have axaK1 := (Rx5aK.out.alloc (.cells #[.slice (some ⟨ghx, 0, none⟩) n0 n0, .slice (some ⟨gbx, 0, none⟩) n1 n1, .int .i64 N] 27)).cell 1 rfl
  have axaK2 := (Rx5aK.out.alloc (.cells #[.slice (some ⟨ghx, 0, none⟩) n0 n0, .slice (some ⟨gbx, 0, none⟩) n1 n1, .int .i64 N] 27)).cell 2 rfl
  obtain ⟨x6, hx6⟩ : ∃ x6, x5.alloc (.cells #[.slice (some ⟨ghx, 0, none⟩) n0 n0, .slice (some ⟨gbx, 0, none⟩) n1 n1, .int .i64 N] 27) = x6 := ⟨_, rfl⟩
  have HWx6 : Hid (x5.alloc (.cells #[.slice (some ⟨ghx, 0, none⟩) n0 n0, .slice (some ⟨gbx, 0, none⟩) n1 n1, .int .i64 N] 27) = x6) := hx6
  have Nx6 : Hid (Blk x6 x5.heap.size 27 [.slice (some ⟨ghx, 0, none⟩) n0 n0, .slice (some ⟨gbx, 0, none⟩) n1 n1, .int .i64 N]) := by rw [← hx6]; exact Blk.new x5 27 [.slice (some ⟨ghx, 0, none⟩) n0 n0, .slice (some ⟨gbx, 0, none⟩) n1 n1, .int .i64 N]
  have bx6 : Below x5.heap.size x5 x6 := by rw [← hx6]; exact (Below.refl _ _).alloc (Nat.le_refl _) _
  have bx6 : Hid (Below x5.heap.size x5 x6) := bx6
  clear hx6
  go_wp2_with fail
  rw [HWx6.out]
  clear bxaK0 bxaK1 bxaK2 axaK0 axaK1 axaK2
  have NEaKxK : Hid (w.heap.size ≠ x5.heap.size) := Nat.ne_of_lt (Nat.lt_of_lt_of_le Rx5aK.out.lt (Nat.le_refl _))
  have NEwxK : Hid (gw ≠ x5.heap.size) := Nat.ne_of_lt (Nat.lt_of_lt_of_le Rx5w.out.lt (Nat.le_refl _))
  have NExHxK : Hid (ghx ≠ x5.heap.size) := Nat.ne_of_lt (Nat.lt_of_lt_of_le Nx5H.out.lt (Nat.le_refl _))
  have NExBxK : Hid (gbx ≠ x5.heap.size) := Nat.ne_of_lt (Nat.lt_of_lt_of_le Nx5B.out.lt (Nat.le_refl _))
  have GExK : Hid (w.heap.size ≤ x5.heap.size) := Nat.le_trans Bx5.out.size (Nat.le_refl _)
  have bx6 := bx6.out
  have Rx6aK : Hid (Blk x6 w.heap.size 51 [.slice a0 n0 c0, .slice a1 n1 c1, .int .i64 N]) := Rx5aK.out.later bx6
  clear Rx5aK
  have Rx6w : Hid (Row x6 gw cw r) := Rx5w.out.later bx6
  clear Rx5w
  have Rx6xH : Hid (IRow x6 ghx n0 lh) := Nx5H.out.later bx6
  clear Nx5H
  have Rx6xB : Hid (Row x6 gbx n1 lb) := Nx5B.out.later bx6
  clear Nx5B
  have Bx6 : Hid (Below w.heap.size w x6) := Bx5.out.trans (bx6.mono Bx5.out.size)
  clear Bx5
  clear bx6
  refine (implHashEnd _ n0 n0 _ n1 n1 N lh lb _ (HT.out.later Bx6.out) HL0.out HL1.out Rx6xH.out.rd Rx6xB.out.rd (by intro e; cases e) HBy.out (by omega) (by omega)).mono ?_
  rw [HO.out]
  rintro e x7 ⟨gg, mg, cg, rfl, ex7, hx7, rx7, bx7⟩
  have Eg : Hid (mg = r.length) := ex7
  have Nx7 : Hid (Row x7 gg cg r) := rx7
  have NEaKg : Hid (w.heap.size ≠ gg) := Nat.ne_of_lt (Nat.lt_of_lt_of_le Rx6aK.out.lt hx7)
  have NEwg : Hid (gw ≠ gg) := Nat.ne_of_lt (Nat.lt_of_lt_of_le Rx6w.out.lt hx7)
  have NExHg : Hid (ghx ≠ gg) := Nat.ne_of_lt (Nat.lt_of_lt_of_le Rx6xH.out.lt hx7)
  have NExBg : Hid (gbx ≠ gg) := Nat.ne_of_lt (Nat.lt_of_lt_of_le Rx6xB.out.lt hx7)
  have NExKg : Hid (x5.heap.size ≠ gg) := Nat.ne_of_lt (Nat.lt_of_lt_of_le Nx6.out.lt hx7)
  have GEg : Hid (w.heap.size ≤ gg) := Nat.le_trans Bx6.out.size hx7
  clear ex7 rx7 hx7
  have Rx7aK : Hid (Blk x7 w.heap.size 51 [.slice a0 n0 c0, .slice a1 n1 c1, .int .i64 N]) := Rx6aK.out.later bx7
  clear Rx6aK
  have Rx7w : Hid (Row x7 gw cw r) := Rx6w.out.later bx7
  clear Rx6w
  have Rx7xH : Hid (IRow x7 ghx n0 lh) := Rx6xH.out.later bx7
  clear Rx6xH
  have Rx7xB : Hid (Row x7 gbx n1 lb) := Rx6xB.out.later bx7
  clear Rx6xB
  have Rx7xK : Hid (Blk x7 x5.heap.size 27 [.slice (some ⟨ghx, 0, none⟩) n0 n0, .slice (some ⟨gbx, 0, none⟩) n1 n1, .int .i64 N]) := Nx6.out.later bx7
  clear Nx6
  have Bx7 : Hid (Below w.heap.size w x7) := Bx6.out.trans (bx7.mono Bx6.out.size)
  clear Bx6
  clear bx7
  have hmg : mg ≤ 1048576 := by rw [Eg.out]; exact HPL.out
  have bxaK0 := Rx7aK.out.cell 0 rfl
  have bxaK1 := Rx7aK.out.cell 1 rfl
  have bxaK2 := Rx7aK.out.cell 2 rfl
  have bxxK0 := Rx7xK.out.cell 0 rfl
  have bxxK1 := Rx7xK.out.cell 1 rfl
  have bxxK2 := Rx7xK.out.cell 2 rfl
  go_wp2_with fail
  clear bxaK0 bxaK1 bxaK2 bxxK0 bxxK1 bxxK2
  refine (eqByteS _ _ mg cg mw cw r r _ Eg.out Ew.out Nx7.out.rd Rx7w.out.rd (by rw [← Eg.out]; omega) (by rw [← Ew.out]; omega)).mono ?_
  rintro e x8 ⟨rfl, mx8, dx8⟩
  have bx8 : Below x7.heap.size x7 x8 := by rw [dx8]; exact below_drewN (Below.refl _ _) _
  clear dx8
  have Rx8aK : Hid (Blk x8 w.heap.size 51 [.slice a0 n0 c0, .slice a1 n1 c1, .int .i64 N]) := Rx7aK.out.later bx8
  clear Rx7aK
  have Rx8w : Hid (Row x8 gw cw r) := Rx7w.out.later bx8
  clear Rx7w
  have Rx8xH : Hid (IRow x8 ghx n0 lh) := Rx7xH.out.later bx8
  clear Rx7xH
  have Rx8xB : Hid (Row x8 gbx n1 lb) := Rx7xB.out.later bx8
  clear Rx7xB
  have Rx8xK : Hid (Blk x8 x5.heap.size 27 [.slice (some ⟨ghx, 0, none⟩) n0 n0, .slice (some ⟨gbx, 0, none⟩) n1 n1, .int .i64 N]) := Rx7xK.out.later bx8
  clear Rx7xK
  have Rx8g : Hid (Row x8 gg cg r) := Nx7.out.later bx8
  clear Nx7
  have Bx8 : Hid (Below w.heap.size w x8) := Bx7.out.trans (bx8.mono Bx7.out.size)
  clear Bx7
  clear bx8
  have bxaK0 := Rx8aK.out.cell 0 rfl
  have bxaK1 := Rx8aK.out.cell 1 rfl
  have bxaK2 := Rx8aK.out.cell 2 rfl
  have bxxK0 := Rx8xK.out.cell 0 rfl
  have bxxK1 := Rx8xK.out.cell 1 rfl
  have bxxK2 := Rx8xK.out.cell 2 rfl
  go_wp2
  go_region_held3 (fun w' => w'.cell? ⟨x5.heap.size, 0, none⟩ = some (.slice (some ⟨ghx, 0, none⟩) n0 n0) ∧ w'.cell? ⟨x5.heap.size, 1, none⟩ = some (.slice (some ⟨gbx, 0, none⟩) n1 n1) ∧ w'.cell? ⟨x5.heap.size, 2, none⟩ = some (.int .i64 N) ∧ w'.cell? ⟨w.heap.size, 0, none⟩ = some (.slice a0 n0 c0) ∧ w'.cell? ⟨w.heap.size, 1, none⟩ = some (.slice a1 n1 c1) ∧ w'.cell? ⟨w.heap.size, 2, none⟩ = some (.int .i64 N)) (first | exact ⟨bxxK0, bxxK1, bxxK2, bxaK0, bxaK1, bxaK2⟩ | exact ⟨kyxK0, kyxK1, kyxK2, kyaK0, kyaK1, kyaK2⟩ | go_keep) (first | (go_at_call 43; refine (toHash a0 n0 c0 a1 n1 c1 N lh lb x8.drew HL0.out HL1.out (HR0.out.later Bx8.out.drew (Nat.le_refl _)) (HR1.out.later Bx8.out.drew (Nat.le_refl _)) (by omega) (by omega)).mono ?_; rintro e x9 ⟨ghy, gby, rfl, py, qy, ney, rhy, rby, bx9⟩; have kyxK0 := (Blk.later (blk_drew Rx8xK.out) bx9).cell 0 rfl; have kyxK1 := (Blk.later (blk_drew Rx8xK.out) bx9).cell 1 rfl; have kyxK2 := (Blk.later (blk_drew Rx8xK.out) bx9).cell 2 rfl; have kyaK0 := (Blk.later (blk_drew Rx8aK.out) bx9).cell 0 rfl; have kyaK1 := (Blk.later (blk_drew Rx8aK.out) bx9).cell 1 rfl; have kyaK2 := (Blk.later (blk_drew Rx8aK.out) bx9).cell 2 rfl) | (go_at_call 44; refine (eqHash _ n0 n0 _ n1 n1 _ n0 n0 _ n1 n1 N lh lb x9 HL0.out HL1.out HL0.out HL1.out (IRow.later (w := x8.drew) Rx8xH.out bx9).rd (Row.later (w := x8.drew) Rx8xB.out bx9).rd rhy.rd rby.rd (by rw [← HL0.out]; omega) (by rw [← HL1.out]; omega)).mono ?_; rintro e x10 ⟨rfl, bx10⟩; have kyxK0 := (Blk.later (Blk.later (blk_drew Rx8xK.out) bx9) bx10).cell 0 rfl; have kyxK1 := (Blk.later (Blk.later (blk_drew Rx8xK.out) bx9) bx10).cell 1 rfl; have kyxK2 := (Blk.later (Blk.later (blk_drew Rx8xK.out) bx9) bx10).cell 2 rfl; have kyaK0 := (Blk.later (Blk.later (blk_drew Rx8aK.out) bx9) bx10).cell 0 rfl; have kyaK1 := (Blk.later (Blk.later (blk_drew Rx8aK.out) bx9) bx10).cell 1 rfl; have kyaK2 := (Blk.later (Blk.later (blk_drew Rx8aK.out) bx9) bx10).cell 2 rfl))
  clear bxaK0 bxaK1 bxaK2 bxxK0 bxxK1 bxxK2
  clear kyxK0 kyxK1 kyxK2 kyaK0 kyaK1 kyaK2
  clear rhy rby py qy ney
  have bzx10 : Below x8.heap.size x8 x10 := (Below.drew (Below.refl _ _)).trans ((bx9 : Below x8.heap.size x8.drew x9).trans ((bx10 : Below x9.heap.size x9 x10).mono (bx9.size : x8.heap.size ≤ x9.heap.size)))
  clear bx9 bx10
  have Rx10aK : Hid (Blk x10 w.heap.size 51 [.slice a0 n0 c0, .slice a1 n1 c1, .int .i64 N]) := Rx8aK.out.later bzx10
  clear Rx8aK
  have Rx10w : Hid (Row x10 gw cw r) := Rx8w.out.later bzx10
  clear Rx8w
  have Rx10xH : Hid (IRow x10 ghx n0 lh) := Rx8xH.out.later bzx10
  clear Rx8xH
  have Rx10xB : Hid (Row x10 gbx n1 lb) := Rx8xB.out.later bzx10
  clear Rx8xB
  have Rx10xK : Hid (Blk x10 x5.heap.size 27 [.slice (some ⟨ghx, 0, none⟩) n0 n0, .slice (some ⟨gbx, 0, none⟩) n1 n1, .int .i64 N]) := Rx8xK.out.later bzx10
  clear Rx8xK
  have Rx10g : Hid (Row x10 gg cg r) := Rx8g.out.later bzx10
  clear Rx8g
  have Bx10 : Hid (Below w.heap.size w x10) := Bx8.out.trans (bzx10.mono Bx8.out.size)
  clear Bx8
  clear bzx10
  have bxaK0 := Rx10aK.out.cell 0 rfl
  have bxaK1 := Rx10aK.out.cell 1 rfl
  have bxaK2 := Rx10aK.out.cell 2 rfl
  have bxxK0 := Rx10xK.out.cell 0 rfl
  have bxxK1 := Rx10xK.out.cell 1 rfl
  have bxxK2 := Rx10xK.out.cell 2 rfl
  go_wp2_with fail
  clear bxaK0 bxaK1 bxaK2 bxxK0 bxxK1 bxxK2
  refine (markHash ghx n0 n0 gbx n1 n1 N lh lb 1 _ HL0.out HL1.out Rx10xH.out Rx10xB.out NExHxB.out (by rw [← HL0.out]; omega) (by rw [← HL1.out]; omega) (by omega) (by omega)).mono ?_
  rintro e x11 ⟨rfl, rx11, ux11, tx11⟩
  have Nx11H : Hid (IRow x11 ghx n0 (imarks 1 n0)) := rx11
  have Nx11B : Hid (Row x11 gbx n1 (marks (1 + n0) n1)) := ux11
  clear rx11 ux11 Rx10xH Rx10xB
  have Rx11aK : Hid (Blk x11 w.heap.size 51 [.slice a0 n0 c0, .slice a1 n1 c1, .int .i64 N]) := Rx10aK.out.keep (tx11.2.2.2.2 _ Rx10aK.out.lt NEaKxH.out NEaKxB.out)
  clear Rx10aK
  have Rx11w : Hid (Row x11 gw cw r) := Rx10w.out.keep (tx11.2.2.2.2 _ Rx10w.out.lt NEwxH.out NEwxB.out)
  clear Rx10w
  have Rx11xK : Hid (Blk x11 x5.heap.size 27 [.slice (some ⟨ghx, 0, none⟩) n0 n0, .slice (some ⟨gbx, 0, none⟩) n1 n1, .int .i64 N]) := Rx10xK.out.keep (tx11.2.2.2.2 _ Rx10xK.out.lt (Ne.symm NExHxK.out) (Ne.symm NExBxK.out))
  clear Rx10xK
  have Rx11g : Hid (Row x11 gg cg r) := Rx10g.out.keep (tx11.2.2.2.2 _ Rx10g.out.lt (Ne.symm NExHg.out) (Ne.symm NExBg.out))
  clear Rx10g
  have Bx11 : Hid (Below w.heap.size w x11) := tx11.below Bx10.out GExH.out GExB.out
  clear Bx10 tx11
  have bxaK0 := Rx11aK.out.cell 0 rfl
  have bxaK1 := Rx11aK.out.cell 1 rfl
  have bxaK2 := Rx11aK.out.cell 2 rfl
  have bxxK0 := Rx11xK.out.cell 0 rfl
  have bxxK1 := Rx11xK.out.cell 1 rfl
  have bxxK2 := Rx11xK.out.cell 2 rfl
  go_wp2_with fail
  clear bxaK0 bxaK1 bxaK2 bxxK0 bxxK1 bxxK2
  refine (eqByteS _ _ mg cg mw cw r r _ Eg.out Ew.out Rx11g.out.rd Rx11w.out.rd (by rw [← Eg.out]; omega) (by rw [← Ew.out]; omega)).mono ?_
  rintro e x12 ⟨rfl, mx12, dx12⟩
  have bx12 : Below x11.heap.size x11 x12 := by rw [dx12]; exact below_drewN (Below.refl _ _) _
  clear dx12
  have Rx12aK : Hid (Blk x12 w.heap.size 51 [.slice a0 n0 c0, .slice a1 n1 c1, .int .i64 N]) := Rx11aK.out.later bx12
  clear Rx11aK
  have Rx12w : Hid (Row x12 gw cw r) := Rx11w.out.later bx12
  clear Rx11w
  have Rx12xK : Hid (Blk x12 x5.heap.size 27 [.slice (some ⟨ghx, 0, none⟩) n0 n0, .slice (some ⟨gbx, 0, none⟩) n1 n1, .int .i64 N]) := Rx11xK.out.later bx12
  clear Rx11xK
  have Rx12g : Hid (Row x12 gg cg r) := Rx11g.out.later bx12
  clear Rx11g
  have Rx12xH : Hid (IRow x12 ghx n0 (imarks 1 n0)) := Nx11H.out.later bx12
  clear Nx11H
  have Rx12xB : Hid (Row x12 gbx n1 (marks (1 + n0) n1)) := Nx11B.out.later bx12
  clear Nx11B
  have Bx12 : Hid (Below w.heap.size w x12) := Bx11.out.trans (bx12.mono Bx11.out.size)
  clear Bx11
  clear bx12
  have bxaK0 := Rx12aK.out.cell 0 rfl
  have bxaK1 := Rx12aK.out.cell 1 rfl
  have bxaK2 := Rx12aK.out.cell 2 rfl
  have bxxK0 := Rx12xK.out.cell 0 rfl
  have bxxK1 := Rx12xK.out.cell 1 rfl
  have bxxK2 := Rx12xK.out.cell 2 rfl
  go_wp2_with fail
  clear bxaK0 bxaK1 bxaK2 bxxK0 bxxK1 bxxK2
  refine (markByteS gg mg cg r 1 _ Eg.out Rx12g.out (by rw [← Eg.out]; omega) (by omega) (by omega)).mono ?_
  rintro e x13 ⟨rfl, rx13, qx13⟩
  have Nx13 : Hid (Row x13 gg cg (marks 1 mg)) := rx13
  clear rx13
  clear Rx12g
  have Rx13aK : Hid (Blk x13 w.heap.size 51 [.slice a0 n0 c0, .slice a1 n1 c1, .int .i64 N]) := Rx12aK.out.keep (qx13.block _ Rx12aK.out.lt (by simp only [ne_eq, Option.some.injEq]; exact NEaKg.out))
  clear Rx12aK
  have Rx13w : Hid (Row x13 gw cw r) := Rx12w.out.keep (qx13.block _ Rx12w.out.lt (by simp only [ne_eq, Option.some.injEq]; exact NEwg.out))
  clear Rx12w
  have Rx13xK : Hid (Blk x13 x5.heap.size 27 [.slice (some ⟨ghx, 0, none⟩) n0 n0, .slice (some ⟨gbx, 0, none⟩) n1 n1, .int .i64 N]) := Rx12xK.out.keep (qx13.block _ Rx12xK.out.lt (by simp only [ne_eq, Option.some.injEq]; exact NExKg.out))
  clear Rx12xK
  have Rx13xH : Hid (IRow x13 ghx n0 (imarks 1 n0)) := Rx12xH.out.keep (qx13.block _ Rx12xH.out.lt (by simp only [ne_eq, Option.some.injEq]; exact NExHg.out))
  clear Rx12xH
  have Rx13xB : Hid (Row x13 gbx n1 (marks (1 + n0) n1)) := Rx12xB.out.keep (qx13.block _ Rx12xB.out.lt (by simp only [ne_eq, Option.some.injEq]; exact NExBg.out))
  clear Rx12xB
  have Bx13 : Hid (Below w.heap.size w x13) := Bx12.out.grown qx13 Bx12.out.size (fun k h => by cases h; exact GEg.out)
  clear Bx12 qx13
  have bxaK0 := Rx13aK.out.cell 0 rfl
  have bxaK1 := Rx13aK.out.cell 1 rfl
  have bxaK2 := Rx13aK.out.cell 2 rfl
  have bxxK0 := Rx13xK.out.cell 0 rfl
  have bxxK1 := Rx13xK.out.cell 1 rfl
  have bxxK2 := Rx13xK.out.cell 2 rfl
  go_wp2_with fail
  clear bxaK0 bxaK1 bxaK2 bxxK0 bxxK1 bxxK2
  refine (heldByteS _ cg mg 1 _ Nx13.out.rd (by omega) (by omega) (by omega)).mono ?_
  rintro e x14 ⟨rfl, rfl⟩
  have bxaK0 := Rx13aK.out.cell 0 rfl
  have bxaK1 := Rx13aK.out.cell 1 rfl
  have bxaK2 := Rx13aK.out.cell 2 rfl
  have bxxK0 := Rx13xK.out.cell 0 rfl
  have bxxK1 := Rx13xK.out.cell 1 rfl
  have bxxK2 := Rx13xK.out.cell 2 rfl
  go_wp2_with fail
  clear bxaK0 bxaK1 bxaK2 bxxK0 bxxK1 bxxK2
  refine (toHash a0 n0 c0 a1 n1 c1 N lh lb _ HL0.out HL1.out (HR0.out.later Bx13.out (Nat.le_refl _)) (HR1.out.later Bx13.out (Nat.le_refl _)) (by omega) (by omega)).mono ?_
  rintro e x15 ⟨ghh, gbh, rfl, px15, qx15, nex15, rhx15, rbx15, bx15⟩
  have Nx15H : Hid (IRow x15 ghh n0 lh) := rhx15
  have Nx15B : Hid (Row x15 gbh n1 lb) := rbx15
  have NEhHhB : Hid (ghh ≠ gbh) := nex15
  have NEaKhH : Hid (w.heap.size ≠ ghh) := Nat.ne_of_lt (Nat.lt_of_lt_of_le Rx13aK.out.lt px15)
  have NEwhH : Hid (gw ≠ ghh) := Nat.ne_of_lt (Nat.lt_of_lt_of_le Rx13w.out.lt px15)
  have NExKhH : Hid (x5.heap.size ≠ ghh) := Nat.ne_of_lt (Nat.lt_of_lt_of_le Rx13xK.out.lt px15)
  have NExHhH : Hid (ghx ≠ ghh) := Nat.ne_of_lt (Nat.lt_of_lt_of_le Rx13xH.out.lt px15)
  have NExBhH : Hid (gbx ≠ ghh) := Nat.ne_of_lt (Nat.lt_of_lt_of_le Rx13xB.out.lt px15)
  have NEghH : Hid (gg ≠ ghh) := Nat.ne_of_lt (Nat.lt_of_lt_of_le Nx13.out.lt px15)
  have GEhH : Hid (w.heap.size ≤ ghh) := Nat.le_trans Bx13.out.size px15
  have NEaKhB : Hid (w.heap.size ≠ gbh) := Nat.ne_of_lt (Nat.lt_of_lt_of_le Rx13aK.out.lt qx15)
  have NEwhB : Hid (gw ≠ gbh) := Nat.ne_of_lt (Nat.lt_of_lt_of_le Rx13w.out.lt qx15)
  have NExKhB : Hid (x5.heap.size ≠ gbh) := Nat.ne_of_lt (Nat.lt_of_lt_of_le Rx13xK.out.lt qx15)
  have NExHhB : Hid (ghx ≠ gbh) := Nat.ne_of_lt (Nat.lt_of_lt_of_le Rx13xH.out.lt qx15)
  have NExBhB : Hid (gbx ≠ gbh) := Nat.ne_of_lt (Nat.lt_of_lt_of_le Rx13xB.out.lt qx15)
  have NEghB : Hid (gg ≠ gbh) := Nat.ne_of_lt (Nat.lt_of_lt_of_le Nx13.out.lt qx15)
  have GEhB : Hid (w.heap.size ≤ gbh) := Nat.le_trans Bx13.out.size qx15
  clear rhx15 rbx15 px15 qx15 nex15
  have Rx15aK : Hid (Blk x15 w.heap.size 51 [.slice a0 n0 c0, .slice a1 n1 c1, .int .i64 N]) := Rx13aK.out.later bx15
  clear Rx13aK
  have Rx15w : Hid (Row x15 gw cw r) := Rx13w.out.later bx15
  clear Rx13w
  have Rx15xK : Hid (Blk x15 x5.heap.size 27 [.slice (some ⟨ghx, 0, none⟩) n0 n0, .slice (some ⟨gbx, 0, none⟩) n1 n1, .int .i64 N]) := Rx13xK.out.later bx15
  clear Rx13xK
  have Rx15xH : Hid (IRow x15 ghx n0 (imarks 1 n0)) := Rx13xH.out.later bx15
  clear Rx13xH
  have Rx15xB : Hid (Row x15 gbx n1 (marks (1 + n0) n1)) := Rx13xB.out.later bx15
  clear Rx13xB
  have Rx15g : Hid (Row x15 gg cg (marks 1 mg)) := Nx13.out.later bx15
  clear Nx13
  have Bx15 : Hid (Below w.heap.size w x15) := Bx13.out.trans (bx15.mono Bx13.out.size)
  clear Bx13
  clear bx15
  unfold hashV
  have bxaK0 := Rx15aK.out.cell 0 rfl
  have bxaK1 := Rx15aK.out.cell 1 rfl
  have bxaK2 := Rx15aK.out.cell 2 rfl
  have bxxK0 := Rx15xK.out.cell 0 rfl
  have bxxK1 := Rx15xK.out.cell 1 rfl
  have bxxK2 := Rx15xK.out.cell 2 rfl
  go_wp2_with fail
  clear bxaK0 bxaK1 bxaK2 bxxK0 bxxK1 bxxK2
  refine (implHashEnd _ n0 n0 _ n1 n1 N lh lb _ (HT.out.later Bx15.out) HL0.out HL1.out Nx15H.out.rd Nx15B.out.rd (by intro e; cases e) HBy.out (by omega) (by omega)).mono ?_
  rw [HO.out]
  rintro e x16 ⟨gh, mh, ch, rfl, ex16, hx16, rx16, bx16⟩
  have Eh : Hid (mh = r.length) := ex16
  have Nx16 : Hid (Row x16 gh ch r) := rx16
  have NEaKh : Hid (w.heap.size ≠ gh) := Nat.ne_of_lt (Nat.lt_of_lt_of_le Rx15aK.out.lt hx16)
  have NEwh : Hid (gw ≠ gh) := Nat.ne_of_lt (Nat.lt_of_lt_of_le Rx15w.out.lt hx16)
  have NExKh : Hid (x5.heap.size ≠ gh) := Nat.ne_of_lt (Nat.lt_of_lt_of_le Rx15xK.out.lt hx16)
  have NExHh : Hid (ghx ≠ gh) := Nat.ne_of_lt (Nat.lt_of_lt_of_le Rx15xH.out.lt hx16)
  have NExBh : Hid (gbx ≠ gh) := Nat.ne_of_lt (Nat.lt_of_lt_of_le Rx15xB.out.lt hx16)
  have NEgh : Hid (gg ≠ gh) := Nat.ne_of_lt (Nat.lt_of_lt_of_le Rx15g.out.lt hx16)
  have NEhHh : Hid (ghh ≠ gh) := Nat.ne_of_lt (Nat.lt_of_lt_of_le Nx15H.out.lt hx16)
  have NEhBh : Hid (gbh ≠ gh) := Nat.ne_of_lt (Nat.lt_of_lt_of_le Nx15B.out.lt hx16)
  have GEh : Hid (w.heap.size ≤ gh) := Nat.le_trans Bx15.out.size hx16
  clear ex16 rx16 hx16
  have Rx16aK : Hid (Blk x16 w.heap.size 51 [.slice a0 n0 c0, .slice a1 n1 c1, .int .i64 N]) := Rx15aK.out.later bx16
  clear Rx15aK
  have Rx16w : Hid (Row x16 gw cw r) := Rx15w.out.later bx16
  clear Rx15w
  have Rx16xK : Hid (Blk x16 x5.heap.size 27 [.slice (some ⟨ghx, 0, none⟩) n0 n0, .slice (some ⟨gbx, 0, none⟩) n1 n1, .int .i64 N]) := Rx15xK.out.later bx16
  clear Rx15xK
  have Rx16xH : Hid (IRow x16 ghx n0 (imarks 1 n0)) := Rx15xH.out.later bx16
  clear Rx15xH
  have Rx16xB : Hid (Row x16 gbx n1 (marks (1 + n0) n1)) := Rx15xB.out.later bx16
  clear Rx15xB
  have Rx16g : Hid (Row x16 gg cg (marks 1 mg)) := Rx15g.out.later bx16
  clear Rx15g
  have Rx16hH : Hid (IRow x16 ghh n0 lh) := Nx15H.out.later bx16
  clear Nx15H
  have Rx16hB : Hid (Row x16 gbh n1 lb) := Nx15B.out.later bx16
  clear Nx15B
  have Bx16 : Hid (Below w.heap.size w x16) := Bx15.out.trans (bx16.mono Bx15.out.size)
  clear Bx15
  clear bx16
  have hmh : mh ≤ 1048576 := by rw [Eh.out]; exact HPL.out
  have bxaK0 := Rx16aK.out.cell 0 rfl
  have bxaK1 := Rx16aK.out.cell 1 rfl
  have bxaK2 := Rx16aK.out.cell 2 rfl
  have bxxK0 := Rx16xK.out.cell 0 rfl
  have bxxK1 := Rx16xK.out.cell 1 rfl
  have bxxK2 := Rx16xK.out.cell 2 rfl
  go_wp2_with fail
  clear bxaK0 bxaK1 bxaK2 bxxK0 bxxK1 bxxK2
  refine (eqByteS _ _ mh ch mw cw r r _ Eh.out Ew.out Nx16.out.rd Rx16w.out.rd (by rw [← Eh.out]; omega) (by rw [← Ew.out]; omega)).mono ?_
  rintro e x17 ⟨rfl, mx17, dx17⟩
  have bx17 : Below x16.heap.size x16 x17 := by rw [dx17]; exact below_drewN (Below.refl _ _) _
  clear dx17
  have Rx17aK : Hid (Blk x17 w.heap.size 51 [.slice a0 n0 c0, .slice a1 n1 c1, .int .i64 N]) := Rx16aK.out.later bx17
  clear Rx16aK
  have Rx17w : Hid (Row x17 gw cw r) := Rx16w.out.later bx17
  clear Rx16w
  have Rx17xK : Hid (Blk x17 x5.heap.size 27 [.slice (some ⟨ghx, 0, none⟩) n0 n0, .slice (some ⟨gbx, 0, none⟩) n1 n1, .int .i64 N]) := Rx16xK.out.later bx17
  clear Rx16xK
  have Rx17xH : Hid (IRow x17 ghx n0 (imarks 1 n0)) := Rx16xH.out.later bx17
  clear Rx16xH
  have Rx17xB : Hid (Row x17 gbx n1 (marks (1 + n0) n1)) := Rx16xB.out.later bx17
  clear Rx16xB
  have Rx17g : Hid (Row x17 gg cg (marks 1 mg)) := Rx16g.out.later bx17
  clear Rx16g
  have Rx17hH : Hid (IRow x17 ghh n0 lh) := Rx16hH.out.later bx17
  clear Rx16hH
  have Rx17hB : Hid (Row x17 gbh n1 lb) := Rx16hB.out.later bx17
  clear Rx16hB
  have Rx17h : Hid (Row x17 gh ch r) := Nx16.out.later bx17
  clear Nx16
  have Bx17 : Hid (Below w.heap.size w x17) := Bx16.out.trans (bx17.mono Bx16.out.size)
  clear Bx16
  clear bx17
  have bxaK0 := Rx17aK.out.cell 0 rfl
  have bxaK1 := Rx17aK.out.cell 1 rfl
  have bxaK2 := Rx17aK.out.cell 2 rfl
  have bxxK0 := Rx17xK.out.cell 0 rfl
  have bxxK1 := Rx17xK.out.cell 1 rfl
  have bxxK2 := Rx17xK.out.cell 2 rfl
  go_wp2_with fail
  clear bxaK0 bxaK1 bxaK2 bxxK0 bxxK1 bxxK2
  refine (heldByteS _ cg mg 1 _ Rx17g.out.rd (by omega) (by omega) (by omega)).mono ?_
  rintro e x18 ⟨rfl, rfl⟩
  go_wp2
  go_ret
  exact ⟨rfl, Bx17.out⟩

theorem isRow_len {k : IntKind} {w : World} {a : Option Addr} {len cap : Nat} {zs : List Int} (h : IsRow k w a len cap zs) : len ≤ maxLen := by
  rcases h with ⟨_, rfl, _, _⟩ | ⟨_, _, h1, h2, _⟩
  · exact Nat.zero_le _
  · exact Nat.le_trans h1 h2

theorem walk (a0 : Option Addr) (n0 c0 : Nat) (z0 : List Int) (a1 : Option Addr) (n1 c1 : Nat) (z1 : List Int) (N : Int) (w : World) (hT : Tab w) (h0 : IsRow .i64 w a0 n0 c0 z0) (h1 : IsRow .u8 w a1 n1 c1 z1) :
    Calls Tryd.prog 9 #[hashV a0 n0 c0 a1 n1 c1 N] w fun e w' => e = .returned (.bool true) ∧ Below w.heap.size w w' := by
  by_cases hs : n0 + n1 ≤ 1048576
  · obtain ⟨lh, hl0, hr0, _, _⟩ := readI h0
    obtain ⟨lb, hl1, hr1, na1, hb1⟩ := h1.read
    exact small a0 n0 c0 a1 n1 c1 N lh lb w hT hl0 hl1 hr0 hr1 hs hb1
  · have m0 := isRow_len h0
    have m1 := isRow_len h1
    have A0 : Hid (Below w.heap.size w (w.alloc (.cells #[.slice a0 n0 c0, .slice a1 n1 c1, .int .i64 N] 51))) := (Below.refl _ _).alloc (Nat.le_refl _) _
    clear h0 h1
    unfold hashV
    go_enter Tryd.func9, Tryd.ntmps9
    go_wp2_with fail
    refine (szBig a0 n0 c0 a1 n1 c1 N _ (by omega) m0 m1).mono ?_
    rintro e w1 ⟨rfl, b1⟩
    have B1 : Hid (Below w.heap.size w w1) := A0.out.trans (b1.mono A0.out.size)
    clear b1
    go_wp2
    go_ret
    exact ⟨rfl, B1.out⟩
end Go.Proofs.YtippfkoondknkaaDoor.LawHashEnd
