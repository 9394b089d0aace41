/-
  laws.FnExactHashAdd answers true at every hash and every slice of bytes, where the table of round words holds what the program's text lays into it; nothing that was there is written into.
-/
import Derived.Test.YtfoilfbpbjfkcaaDoorHashT
namespace Go.Proofs.YtfoilfbpbjfkcaaDoor.LawHashAdd
open Go.RowKit Go.Proofs.YtfoilfbpbjfkcaaDoor.Mem Go.Proofs.YtfoilfbpbjfkcaaDoor.MemI Go.Proofs.YtfoilfbpbjfkcaaDoor.Blk Go.Proofs.YtfoilfbpbjfkcaaDoor.App Go.Proofs.YtfoilfbpbjfkcaaDoor.ShaP Go.Proofs.YtfoilfbpbjfkcaaDoor.Hashs Go.Proofs.YtfoilfbpbjfkcaaDoor.HashH Go.Proofs.YtfoilfbpbjfkcaaDoor.HashO Go.Proofs.YtfoilfbpbjfkcaaDoor.HashS Go.Proofs.YtfoilfbpbjfkcaaDoor.HashE Go.Proofs.YtfoilfbpbjfkcaaDoor.HashC Go.Proofs.YtfoilfbpbjfkcaaDoor.HashT Go.Proofs.YtfoilfbpbjfkcaaDoor.WordsOf Go.Proofs.YtfoilfbpbjfkcaaDoor.Comp Go.Proofs.YtfoilfbpbjfkcaaDoor.Ends

theorem addB_le (h held : List Int) (N : Int) (b : List Int) (hl : held.length ≤ 1048576) : (addB h held N b).length ≤ 1048576 := by
  unfold addB; split
  · rw [drop_len]; omega
  · exact hl

set_option maxRecDepth 100000 in
set_option maxHeartbeats 4000000 in
theorem small (a0 : Option Addr) (n0 c0 : Nat) (a1 : Option Addr) (n1 c1 : Nat) (N : Int) (lh lb : List Int) (a2 : Option Addr) (n2 c2 : Nat) (lc : List Int) (w : World) (hT : Tab w) (hl0 : n0 = lh.length) (hl1 : n1 = lb.length) (hr0 : IRd w a0 lh) (hr1 : Rd w a1 lb) (hsz : n0 + n1 ≤ 1048576) (hb1 : Bytes lb) (hl2 : n2 = lc.length) (hr2 : Rd w a2 lc) (hb2 : Bytes lc) (hn2 : n2 ≤ 1048576) :
    Calls Tryd.prog 6 #[hashV a0 n0 c0 a1 n1 c1 N, .slice a2 n2 c2] w fun e w' => e = .returned (.bool true) ∧ Below w.heap.size w w' := by
  have HT : Hid (Tab w) := hT
  have HBy : Hid (Bytes lb) := hb1
  have HBc : Hid (Bytes lc) := hb2
  have HL2 : Hid (n2 = lc.length) := hl2
  have HR2 : Hid (Rd w a2 lc) := hr2
  clear hT hb1 hb2 hl2 hr2
  have HL0 : Hid (n0 = lh.length) := hl0
  have HL1 : Hid (n1 = lb.length) := hl1
  have HR0 : Hid (IRd w a0 lh) := hr0
  have HR1 : Hid (Rd w a1 lb) := hr1
  clear hl0 hl1 hr0 hr1
  unfold hashV
  obtain ⟨rH, hrH⟩ : ∃ r, addW lh lb N lc = r := ⟨_, rfl⟩
  obtain ⟨rB, hrB⟩ : ∃ r, addB lh lb N lc = r := ⟨_, rfl⟩
  obtain ⟨rN, hrN⟩ : ∃ r, addN lh lb N lc = r := ⟨_, rfl⟩
  have HPH : Hid (rH.length ≤ 1048576) := by show _ ≤ _; rw [← hrH, addW_length, ← HL0.out]; omega
  have HPB : Hid (rB.length ≤ 1048576) := by show _ ≤ _; rw [← hrB]; exact addB_le lh lb N lc (by rw [← HL1.out]; omega)
  have HOW : Hid (addW lh lb N lc = rH) := hrH
  have HOB : Hid (addB lh lb N lc = rB) := hrB
  have HON : Hid (addN lh lb N lc = rN) := hrN
  clear hrH hrB hrN
  go_enter Tryd.func6, Tryd.ntmps6
  obtain ⟨x1, hx1⟩ : ∃ x1, w.alloc (.cells #[.slice a0 n0 c0, .slice a1 n1 c1, .int .i64 N] 39) = x1 := ⟨_, rfl⟩
  have HWx1 : Hid (w.alloc (.cells #[.slice a0 n0 c0, .slice a1 n1 c1, .int .i64 N] 39) = x1) := hx1
  have Nx1 : Hid (Blk x1 w.heap.size 39 [.slice a0 n0 c0, .slice a1 n1 c1, .int .i64 N]) := by rw [← hx1]; exact Blk.new w 39 [.slice a0 n0 c0, .slice a1 n1 c1, .int .i64 N]
  have bx1 : Below w.heap.size w x1 := by rw [← hx1]; exact (Below.refl _ _).alloc (Nat.le_refl _) _
  have bx1 : Hid (Below w.heap.size w x1) := bx1
  clear hx1
  go_wp2_with fail
  rw [HWx1.out]
  have GEaK : Hid (w.heap.size ≤ w.heap.size) := (Nat.le_refl _)
  have bx1 := bx1.out
  have Bx1 : Hid (Below w.heap.size w x1) := bx1
  clear bx1
  refine (szSmall a0 n0 c0 a1 n1 c1 N _ hsz).mono ?_
  rintro e x2 ⟨rfl, bx2⟩
  have Rx2aK : Hid (Blk x2 w.heap.size 39 [.slice a0 n0 c0, .slice a1 n1 c1, .int .i64 N]) := Nx1.out.later bx2
  clear Nx1
  have Bx2 : Hid (Below w.heap.size w x2) := Bx1.out.trans (bx2.mono Bx1.out.size)
  clear Bx1
  clear bx2
  have bxaK0 := Rx2aK.out.cell 0 rfl
  have bxaK1 := Rx2aK.out.cell 1 rfl
  have bxaK2 := Rx2aK.out.cell 2 rfl
  go_wp2_with fail
  clear bxaK0 bxaK1 bxaK2
  refine (toHash a0 n0 c0 a1 n1 c1 N lh lb _ HL0.out HL1.out (HR0.out.later Bx2.out (Nat.le_refl _)) (HR1.out.later Bx2.out (Nat.le_refl _)) (by omega) (by omega)).mono ?_
  rintro e x3 ⟨ghs, gbs, rfl, px3, qx3, nex3, rhx3, rbx3, bx3⟩
  have Nx3H : Hid (IRow x3 ghs n0 lh) := rhx3
  have Nx3B : Hid (Row x3 gbs n1 lb) := rbx3
  have NEsHsB : Hid (ghs ≠ gbs) := nex3
  have NEaKsH : Hid (w.heap.size ≠ ghs) := Nat.ne_of_lt (Nat.lt_of_lt_of_le Rx2aK.out.lt px3)
  have GEsH : Hid (w.heap.size ≤ ghs) := Nat.le_trans Bx2.out.size px3
  have NEaKsB : Hid (w.heap.size ≠ gbs) := Nat.ne_of_lt (Nat.lt_of_lt_of_le Rx2aK.out.lt qx3)
  have GEsB : Hid (w.heap.size ≤ gbs) := Nat.le_trans Bx2.out.size qx3
  clear rhx3 rbx3 px3 qx3 nex3
  have Rx3aK : Hid (Blk x3 w.heap.size 39 [.slice a0 n0 c0, .slice a1 n1 c1, .int .i64 N]) := Rx2aK.out.later bx3
  clear Rx2aK
  have Bx3 : Hid (Below w.heap.size w x3) := Bx2.out.trans (bx3.mono Bx2.out.size)
  clear Bx2
  clear bx3
  unfold hashV
  have bxaK0 := Rx3aK.out.cell 0 rfl
  have bxaK1 := Rx3aK.out.cell 1 rfl
  have bxaK2 := Rx3aK.out.cell 2 rfl
  go_wp2_with fail
  clear bxaK0 bxaK1 bxaK2
  refine (toByteS a2 n2 c2 lc _ HL2.out (HR2.out.later Bx3.out (Nat.le_refl _)) (by rw [← HL2.out]; omega)).mono ?_
  rintro e x4 ⟨rfl, rx4, bx4⟩
  have Nx4 : Hid (Row x4 x3.heap.size n2 lc) := rx4
  clear rx4
  have NEaKsC : Hid (w.heap.size ≠ x3.heap.size) := Nat.ne_of_lt (Nat.lt_of_lt_of_le Rx3aK.out.lt (Nat.le_refl _))
  have NEsHsC : Hid (ghs ≠ x3.heap.size) := Nat.ne_of_lt (Nat.lt_of_lt_of_le Nx3H.out.lt (Nat.le_refl _))
  have NEsBsC : Hid (gbs ≠ x3.heap.size) := Nat.ne_of_lt (Nat.lt_of_lt_of_le Nx3B.out.lt (Nat.le_refl _))
  have GEsC : Hid (w.heap.size ≤ x3.heap.size) := Nat.le_trans Bx3.out.size (Nat.le_refl _)
  have Rx4aK : Hid (Blk x4 w.heap.size 39 [.slice a0 n0 c0, .slice a1 n1 c1, .int .i64 N]) := Rx3aK.out.later bx4
  clear Rx3aK
  have Rx4sH : Hid (IRow x4 ghs n0 lh) := Nx3H.out.later bx4
  clear Nx3H
  have Rx4sB : Hid (Row x4 gbs n1 lb) := Nx3B.out.later bx4
  clear Nx3B
  have Bx4 : Hid (Below w.heap.size w x4) := Bx3.out.trans (bx4.mono Bx3.out.size)
  clear Bx3
  clear bx4
  have bxaK0 := Rx4aK.out.cell 0 rfl
  have bxaK1 := Rx4aK.out.cell 1 rfl
  have bxaK2 := Rx4aK.out.cell 2 rfl
  go_wp2_with fail
  clear bxaK0 bxaK1 bxaK2
  refine (specHashAdd _ n0 n0 _ n1 n1 N lh lb _ n2 n2 lc _ HL0.out HL1.out Rx4sH.out.rd Rx4sB.out.rd HBy.out (by omega) (by omega) (by intro e; cases e) (by intro e; cases e) HL2.out Nx4.out.rd (by intro e; cases e) HBc.out (by omega)).mono ?_
  rw [HOW.out, HOB.out, HON.out]
  rintro e x5 ⟨ghw, mhw, chw, gbw, mbw, cbw, rfl, ehx5, ebx5, px5, qx5, nex5, rhx5, rbx5, bx5⟩
  have Ehw : Hid (mhw = rH.length) := ehx5
  have Ebw : Hid (mbw = rB.length) := ebx5
  clear ehx5 ebx5
  have lhw : mhw ≤ 1048576 := by rw [Ehw.out]; exact HPH.out
  have lbw : mbw ≤ 1048576 := by rw [Ebw.out]; exact HPB.out
  have Nx5H : Hid (IRow x5 ghw chw rH) := rhx5
  have Nx5B : Hid (Row x5 gbw cbw rB) := rbx5
  have NEwHwB : Hid (ghw ≠ gbw) := nex5
  have NEaKwH : Hid (w.heap.size ≠ ghw) := Nat.ne_of_lt (Nat.lt_of_lt_of_le Rx4aK.out.lt px5)
  have NEsHwH : Hid (ghs ≠ ghw) := Nat.ne_of_lt (Nat.lt_of_lt_of_le Rx4sH.out.lt px5)
  have NEsBwH : Hid (gbs ≠ ghw) := Nat.ne_of_lt (Nat.lt_of_lt_of_le Rx4sB.out.lt px5)
  have NEsCwH : Hid (x3.heap.size ≠ ghw) := Nat.ne_of_lt (Nat.lt_of_lt_of_le Nx4.out.lt px5)
  have GEwH : Hid (w.heap.size ≤ ghw) := Nat.le_trans Bx4.out.size px5
  have NEaKwB : Hid (w.heap.size ≠ gbw) := Nat.ne_of_lt (Nat.lt_of_lt_of_le Rx4aK.out.lt qx5)
  have NEsHwB : Hid (ghs ≠ gbw) := Nat.ne_of_lt (Nat.lt_of_lt_of_le Rx4sH.out.lt qx5)
  have NEsBwB : Hid (gbs ≠ gbw) := Nat.ne_of_lt (Nat.lt_of_lt_of_le Rx4sB.out.lt qx5)
  have NEsCwB : Hid (x3.heap.size ≠ gbw) := Nat.ne_of_lt (Nat.lt_of_lt_of_le Nx4.out.lt qx5)
  have GEwB : Hid (w.heap.size ≤ gbw) := Nat.le_trans Bx4.out.size qx5
  clear rhx5 rbx5 px5 qx5 nex5
  have Rx5aK : Hid (Blk x5 w.heap.size 39 [.slice a0 n0 c0, .slice a1 n1 c1, .int .i64 N]) := Rx4aK.out.later bx5
  clear Rx4aK
  have Rx5sH : Hid (IRow x5 ghs n0 lh) := Rx4sH.out.later bx5
  clear Rx4sH
  have Rx5sB : Hid (Row x5 gbs n1 lb) := Rx4sB.out.later bx5
  clear Rx4sB
  have Rx5sC : Hid (Row x5 x3.heap.size n2 lc) := Nx4.out.later bx5
  clear Nx4
  have Bx5 : Hid (Below w.heap.size w x5) := Bx4.out.trans (bx5.mono Bx4.out.size)
  clear Bx4
  clear bx5
  unfold hashV
  have bxaK0 := Rx5aK.out.cell 0 rfl
  have bxaK1 := Rx5aK.out.cell 1 rfl
  have bxaK2 := Rx5aK.out.cell 2 rfl
  have axaK0 := (Rx5aK.out.alloc (.cells #[.slice (some ⟨ghw, 0, none⟩) mhw chw, .slice (some ⟨gbw, 0, none⟩) mbw cbw, .int .i64 rN] 27)).cell 0 rfl
  have axaK1 := (Rx5aK.out.alloc (.cells #[.slice (some ⟨ghw, 0, none⟩) mhw chw, .slice (some ⟨gbw, 0, none⟩) mbw cbw, .int .i64 rN] 27)).cell 1 rfl
  have axaK2 := (Rx5aK.out.alloc (.cells #[.slice (some ⟨ghw, 0, none⟩) mhw chw, .slice (some ⟨gbw, 0, none⟩) mbw cbw, .int .i64 rN] 27)).cell 2 rfl
  obtain ⟨x6, hx6⟩ : ∃ x6, x5.alloc (.cells #[.slice (some ⟨ghw, 0, none⟩) mhw chw, .slice (some ⟨gbw, 0, none⟩) mbw cbw, .int .i64 rN] 27) = x6 := ⟨_, rfl⟩
  have HWx6 : Hid (x5.alloc (.cells #[.slice (some ⟨ghw, 0, none⟩) mhw chw, .slice (some ⟨gbw, 0, none⟩) mbw cbw, .int .i64 rN] 27) = x6) := hx6
  have Nx6 : Hid (Blk x6 x5.heap.size 27 [.slice (some ⟨ghw, 0, none⟩) mhw chw, .slice (some ⟨gbw, 0, none⟩) mbw cbw, .int .i64 rN]) := by rw [← hx6]; exact Blk.new x5 27 [.slice (some ⟨ghw, 0, none⟩) mhw chw, .slice (some ⟨gbw, 0, none⟩) mbw cbw, .int .i64 rN]
  have bx6 : Below x5.heap.size x5 x6 := by rw [← hx6]; exact (Below.refl _ _).alloc (Nat.le_refl _) _
  have bx6 : Hid (Below x5.heap.size x5 x6) := bx6
  clear hx6
  go_wp2_with fail
  rw [HWx6.out]
  clear bxaK0 bxaK1 bxaK2 axaK0 axaK1 axaK2
  have NEaKwK : Hid (w.heap.size ≠ x5.heap.size) := Nat.ne_of_lt (Nat.lt_of_lt_of_le Rx5aK.out.lt (Nat.le_refl _))
  have NEsHwK : Hid (ghs ≠ x5.heap.size) := Nat.ne_of_lt (Nat.lt_of_lt_of_le Rx5sH.out.lt (Nat.le_refl _))
  have NEsBwK : Hid (gbs ≠ x5.heap.size) := Nat.ne_of_lt (Nat.lt_of_lt_of_le Rx5sB.out.lt (Nat.le_refl _))
  have NEsCwK : Hid (x3.heap.size ≠ x5.heap.size) := Nat.ne_of_lt (Nat.lt_of_lt_of_le Rx5sC.out.lt (Nat.le_refl _))
  have NEwHwK : Hid (ghw ≠ x5.heap.size) := Nat.ne_of_lt (Nat.lt_of_lt_of_le Nx5H.out.lt (Nat.le_refl _))
  have NEwBwK : Hid (gbw ≠ x5.heap.size) := Nat.ne_of_lt (Nat.lt_of_lt_of_le Nx5B.out.lt (Nat.le_refl _))
  have GEwK : Hid (w.heap.size ≤ x5.heap.size) := Nat.le_trans Bx5.out.size (Nat.le_refl _)
  have bx6 := bx6.out
  have Rx6aK : Hid (Blk x6 w.heap.size 39 [.slice a0 n0 c0, .slice a1 n1 c1, .int .i64 N]) := Rx5aK.out.later bx6
  clear Rx5aK
  have Rx6sH : Hid (IRow x6 ghs n0 lh) := Rx5sH.out.later bx6
  clear Rx5sH
  have Rx6sB : Hid (Row x6 gbs n1 lb) := Rx5sB.out.later bx6
  clear Rx5sB
  have Rx6sC : Hid (Row x6 x3.heap.size n2 lc) := Rx5sC.out.later bx6
  clear Rx5sC
  have Rx6wH : Hid (IRow x6 ghw chw rH) := Nx5H.out.later bx6
  clear Nx5H
  have Rx6wB : Hid (Row x6 gbw cbw rB) := Nx5B.out.later bx6
  clear Nx5B
  have Bx6 : Hid (Below w.heap.size w x6) := Bx5.out.trans (bx6.mono Bx5.out.size)
  clear Bx5
  clear bx6
  clear Rx6sH
  clear Rx6sB
  clear Rx6sC
  refine (toHash a0 n0 c0 a1 n1 c1 N lh lb _ HL0.out HL1.out (HR0.out.later Bx6.out (Nat.le_refl _)) (HR1.out.later Bx6.out (Nat.le_refl _)) (by omega) (by omega)).mono ?_
  rintro e x7 ⟨ghx, gbx, rfl, px7, qx7, nex7, rhx7, rbx7, bx7⟩
  have Nx7H : Hid (IRow x7 ghx n0 lh) := rhx7
  have Nx7B : Hid (Row x7 gbx n1 lb) := rbx7
  have NExHxB : Hid (ghx ≠ gbx) := nex7
  have NEaKxH : Hid (w.heap.size ≠ ghx) := Nat.ne_of_lt (Nat.lt_of_lt_of_le Rx6aK.out.lt px7)
  have NEwHxH : Hid (ghw ≠ ghx) := Nat.ne_of_lt (Nat.lt_of_lt_of_le Rx6wH.out.lt px7)
  have NEwBxH : Hid (gbw ≠ ghx) := Nat.ne_of_lt (Nat.lt_of_lt_of_le Rx6wB.out.lt px7)
  have NEwKxH : Hid (x5.heap.size ≠ ghx) := Nat.ne_of_lt (Nat.lt_of_lt_of_le Nx6.out.lt px7)
  have GExH : Hid (w.heap.size ≤ ghx) := Nat.le_trans Bx6.out.size px7
  have NEaKxB : Hid (w.heap.size ≠ gbx) := Nat.ne_of_lt (Nat.lt_of_lt_of_le Rx6aK.out.lt qx7)
  have NEwHxB : Hid (ghw ≠ gbx) := Nat.ne_of_lt (Nat.lt_of_lt_of_le Rx6wH.out.lt qx7)
  have NEwBxB : Hid (gbw ≠ gbx) := Nat.ne_of_lt (Nat.lt_of_lt_of_le Rx6wB.out.lt qx7)
  have NEwKxB : Hid (x5.heap.size ≠ gbx) := Nat.ne_of_lt (Nat.lt_of_lt_of_le Nx6.out.lt qx7)
  have GExB : Hid (w.heap.size ≤ gbx) := Nat.le_trans Bx6.out.size qx7
  clear rhx7 rbx7 px7 qx7 nex7
  have Rx7aK : Hid (Blk x7 w.heap.size 39 [.slice a0 n0 c0, .slice a1 n1 c1, .int .i64 N]) := Rx6aK.out.later bx7
  clear Rx6aK
  have Rx7wH : Hid (IRow x7 ghw chw rH) := Rx6wH.out.later bx7
  clear Rx6wH
  have Rx7wB : Hid (Row x7 gbw cbw rB) := Rx6wB.out.later bx7
  clear Rx6wB
  have Rx7wK : Hid (Blk x7 x5.heap.size 27 [.slice (some ⟨ghw, 0, none⟩) mhw chw, .slice (some ⟨gbw, 0, none⟩) mbw cbw, .int .i64 rN]) := Nx6.out.later bx7
  clear Nx6
  have Bx7 : Hid (Below w.heap.size w x7) := Bx6.out.trans (bx7.mono Bx6.out.size)
  clear Bx6
  clear bx7
  unfold hashV
  have bxaK0 := Rx7aK.out.cell 0 rfl
  have bxaK1 := Rx7aK.out.cell 1 rfl
  have bxaK2 := Rx7aK.out.cell 2 rfl
  have bxwK0 := Rx7wK.out.cell 0 rfl
  have bxwK1 := Rx7wK.out.cell 1 rfl
  have bxwK2 := Rx7wK.out.cell 2 rfl
  have axaK0 := (Rx7aK.out.alloc (.cells #[.slice (some ⟨ghx, 0, none⟩) n0 n0, .slice (some ⟨gbx, 0, none⟩) n1 n1, .int .i64 N] 27)).cell 0 rfl
  have axaK1 := (Rx7aK.out.alloc (.cells #[.slice (some ⟨ghx, 0, none⟩) n0 n0, .slice (some ⟨gbx, 0, none⟩) n1 n1, .int .i64 N] 27)).cell 1 rfl
  have axaK2 := (Rx7aK.out.alloc (.cells #[.slice (some ⟨ghx, 0, none⟩) n0 n0, .slice (some ⟨gbx, 0, none⟩) n1 n1, .int .i64 N] 27)).cell 2 rfl
  have axwK0 := (Rx7wK.out.alloc (.cells #[.slice (some ⟨ghx, 0, none⟩) n0 n0, .slice (some ⟨gbx, 0, none⟩) n1 n1, .int .i64 N] 27)).cell 0 rfl
  have axwK1 := (Rx7wK.out.alloc (.cells #[.slice (some ⟨ghx, 0, none⟩) n0 n0, .slice (some ⟨gbx, 0, none⟩) n1 n1, .int .i64 N] 27)).cell 1 rfl
  have axwK2 := (Rx7wK.out.alloc (.cells #[.slice (some ⟨ghx, 0, none⟩) n0 n0, .slice (some ⟨gbx, 0, none⟩) n1 n1, .int .i64 N] 27)).cell 2 rfl
  obtain ⟨x8, hx8⟩ : ∃ x8, x7.alloc (.cells #[.slice (some ⟨ghx, 0, none⟩) n0 n0, .slice (some ⟨gbx, 0, none⟩) n1 n1, .int .i64 N] 27) = x8 := ⟨_, rfl⟩
  have HWx8 : Hid (x7.alloc (.cells #[.slice (some ⟨ghx, 0, none⟩) n0 n0, .slice (some ⟨gbx, 0, none⟩) n1 n1, .int .i64 N] 27) = x8) := hx8
  have Nx8 : Hid (Blk x8 x7.heap.size 27 [.slice (some ⟨ghx, 0, none⟩) n0 n0, .slice (some ⟨gbx, 0, none⟩) n1 n1, .int .i64 N]) := by rw [← hx8]; exact Blk.new x7 27 [.slice (some ⟨ghx, 0, none⟩) n0 n0, .slice (some ⟨gbx, 0, none⟩) n1 n1, .int .i64 N]
  have bx8 : Below x7.heap.size x7 x8 := by rw [← hx8]; exact (Below.refl _ _).alloc (Nat.le_refl _) _
  have bx8 : Hid (Below x7.heap.size x7 x8) := bx8
  clear hx8
  go_wp2_with fail
  rw [HWx8.out]
  clear bxaK0 bxaK1 bxaK2 bxwK0 bxwK1 bxwK2 axaK0 axaK1 axaK2 axwK0 axwK1 axwK2
  have NEaKxK : Hid (w.heap.size ≠ x7.heap.size) := Nat.ne_of_lt (Nat.lt_of_lt_of_le Rx7aK.out.lt (Nat.le_refl _))
  have NEwHxK : Hid (ghw ≠ x7.heap.size) := Nat.ne_of_lt (Nat.lt_of_lt_of_le Rx7wH.out.lt (Nat.le_refl _))
  have NEwBxK : Hid (gbw ≠ x7.heap.size) := Nat.ne_of_lt (Nat.lt_of_lt_of_le Rx7wB.out.lt (Nat.le_refl _))
  have NEwKxK : Hid (x5.heap.size ≠ x7.heap.size) := Nat.ne_of_lt (Nat.lt_of_lt_of_le Rx7wK.out.lt (Nat.le_refl _))
  have NExHxK : Hid (ghx ≠ x7.heap.size) := Nat.ne_of_lt (Nat.lt_of_lt_of_le Nx7H.out.lt (Nat.le_refl _))
  have NExBxK : Hid (gbx ≠ x7.heap.size) := Nat.ne_of_lt (Nat.lt_of_lt_of_le Nx7B.out.lt (Nat.le_refl _))
  have GExK : Hid (w.heap.size ≤ x7.heap.size) := Nat.le_trans Bx7.out.size (Nat.le_refl _)
  have bx8 := bx8.out
  have Rx8aK : Hid (Blk x8 w.heap.size 39 [.slice a0 n0 c0, .slice a1 n1 c1, .int .i64 N]) := Rx7aK.out.later bx8
  clear Rx7aK
  have Rx8wH : Hid (IRow x8 ghw chw rH) := Rx7wH.out.later bx8
  clear Rx7wH
  have Rx8wB : Hid (Row x8 gbw cbw rB) := Rx7wB.out.later bx8
  clear Rx7wB
  have Rx8wK : Hid (Blk x8 x5.heap.size 27 [.slice (some ⟨ghw, 0, none⟩) mhw chw, .slice (some ⟨gbw, 0, none⟩) mbw cbw, .int .i64 rN]) := Rx7wK.out.later bx8
  clear Rx7wK
  have Rx8xH : Hid (IRow x8 ghx n0 lh) := Nx7H.out.later bx8
  clear Nx7H
  have Rx8xB : Hid (Row x8 gbx n1 lb) := Nx7B.out.later bx8
  clear Nx7B
  have Bx8 : Hid (Below w.heap.size w x8) := Bx7.out.trans (bx8.mono Bx7.out.size)
  clear Bx7
  clear bx8
  refine (toByteS a2 n2 c2 lc _ HL2.out (HR2.out.later Bx8.out (Nat.le_refl _)) (by rw [← HL2.out]; omega)).mono ?_
  rintro e x9 ⟨rfl, rx9, bx9⟩
  have Nx9 : Hid (Row x9 x8.heap.size n2 lc) := rx9
  clear rx9
  have NEaKxC : Hid (w.heap.size ≠ x8.heap.size) := Nat.ne_of_lt (Nat.lt_of_lt_of_le Rx8aK.out.lt (Nat.le_refl _))
  have NEwHxC : Hid (ghw ≠ x8.heap.size) := Nat.ne_of_lt (Nat.lt_of_lt_of_le Rx8wH.out.lt (Nat.le_refl _))
  have NEwBxC : Hid (gbw ≠ x8.heap.size) := Nat.ne_of_lt (Nat.lt_of_lt_of_le Rx8wB.out.lt (Nat.le_refl _))
  have NEwKxC : Hid (x5.heap.size ≠ x8.heap.size) := Nat.ne_of_lt (Nat.lt_of_lt_of_le Rx8wK.out.lt (Nat.le_refl _))
  have NExHxC : Hid (ghx ≠ x8.heap.size) := Nat.ne_of_lt (Nat.lt_of_lt_of_le Rx8xH.out.lt (Nat.le_refl _))
  have NExBxC : Hid (gbx ≠ x8.heap.size) := Nat.ne_of_lt (Nat.lt_of_lt_of_le Rx8xB.out.lt (Nat.le_refl _))
  have NExKxC : Hid (x7.heap.size ≠ x8.heap.size) := Nat.ne_of_lt (Nat.lt_of_lt_of_le Nx8.out.lt (Nat.le_refl _))
  have GExC : Hid (w.heap.size ≤ x8.heap.size) := Nat.le_trans Bx8.out.size (Nat.le_refl _)
  have Rx9aK : Hid (Blk x9 w.heap.size 39 [.slice a0 n0 c0, .slice a1 n1 c1, .int .i64 N]) := Rx8aK.out.later bx9
  clear Rx8aK
  have Rx9wH : Hid (IRow x9 ghw chw rH) := Rx8wH.out.later bx9
  clear Rx8wH
  have Rx9wB : Hid (Row x9 gbw cbw rB) := Rx8wB.out.later bx9
  clear Rx8wB
  have Rx9wK : Hid (Blk x9 x5.heap.size 27 [.slice (some ⟨ghw, 0, none⟩) mhw chw, .slice (some ⟨gbw, 0, none⟩) mbw cbw, .int .i64 rN]) := Rx8wK.out.later bx9
  clear Rx8wK
  have Rx9xH : Hid (IRow x9 ghx n0 lh) := Rx8xH.out.later bx9
  clear Rx8xH
  have Rx9xB : Hid (Row x9 gbx n1 lb) := Rx8xB.out.later bx9
  clear Rx8xB
  have Rx9xK : Hid (Blk x9 x7.heap.size 27 [.slice (some ⟨ghx, 0, none⟩) n0 n0, .slice (some ⟨gbx, 0, none⟩) n1 n1, .int .i64 N]) := Nx8.out.later bx9
  clear Nx8
  have Bx9 : Hid (Below w.heap.size w x9) := Bx8.out.trans (bx9.mono Bx8.out.size)
  clear Bx8
  clear bx9
  have bxaK0 := Rx9aK.out.cell 0 rfl
  have bxaK1 := Rx9aK.out.cell 1 rfl
  have bxaK2 := Rx9aK.out.cell 2 rfl
  have bxwK0 := Rx9wK.out.cell 0 rfl
  have bxwK1 := Rx9wK.out.cell 1 rfl
  have bxwK2 := Rx9wK.out.cell 2 rfl
  have bxxK0 := Rx9xK.out.cell 0 rfl
  have bxxK1 := Rx9xK.out.cell 1 rfl
  have bxxK2 := Rx9xK.out.cell 2 rfl
  go_wp2_with fail
  clear bxaK0 bxaK1 bxaK2 bxwK0 bxwK1 bxwK2 bxxK0 bxxK1 bxxK2
  refine (implHashAdd _ n0 n0 _ n1 n1 N lh lb _ n2 n2 lc _ (HT.out.later Bx9.out) HL0.out HL1.out Rx9xH.out.rd Rx9xB.out.rd (by intro e; cases e) HBy.out (by omega) (by omega) HL2.out Nx9.out.rd (by intro e; cases e) HBc.out (by omega)).mono ?_
  rw [HOW.out, HOB.out, HON.out]
  rintro e x10 ⟨ghg, mhg, chg, gbg, mbg, cbg, rfl, ehx10, ebx10, px10, qx10, nex10, rhx10, rbx10, bx10⟩
  have Ehg : Hid (mhg = rH.length) := ehx10
  have Ebg : Hid (mbg = rB.length) := ebx10
  clear ehx10 ebx10
  have lhg : mhg ≤ 1048576 := by rw [Ehg.out]; exact HPH.out
  have lbg : mbg ≤ 1048576 := by rw [Ebg.out]; exact HPB.out
  have Nx10H : Hid (IRow x10 ghg chg rH) := rhx10
  have Nx10B : Hid (Row x10 gbg cbg rB) := rbx10
  have NEgHgB : Hid (ghg ≠ gbg) := nex10
  have NEaKgH : Hid (w.heap.size ≠ ghg) := Nat.ne_of_lt (Nat.lt_of_lt_of_le Rx9aK.out.lt px10)
  have NEwHgH : Hid (ghw ≠ ghg) := Nat.ne_of_lt (Nat.lt_of_lt_of_le Rx9wH.out.lt px10)
  have NEwBgH : Hid (gbw ≠ ghg) := Nat.ne_of_lt (Nat.lt_of_lt_of_le Rx9wB.out.lt px10)
  have NEwKgH : Hid (x5.heap.size ≠ ghg) := Nat.ne_of_lt (Nat.lt_of_lt_of_le Rx9wK.out.lt px10)
  have NExHgH : Hid (ghx ≠ ghg) := Nat.ne_of_lt (Nat.lt_of_lt_of_le Rx9xH.out.lt px10)
  have NExBgH : Hid (gbx ≠ ghg) := Nat.ne_of_lt (Nat.lt_of_lt_of_le Rx9xB.out.lt px10)
  have NExKgH : Hid (x7.heap.size ≠ ghg) := Nat.ne_of_lt (Nat.lt_of_lt_of_le Rx9xK.out.lt px10)
  have NExCgH : Hid (x8.heap.size ≠ ghg) := Nat.ne_of_lt (Nat.lt_of_lt_of_le Nx9.out.lt px10)
  have GEgH : Hid (w.heap.size ≤ ghg) := Nat.le_trans Bx9.out.size px10
  have NEaKgB : Hid (w.heap.size ≠ gbg) := Nat.ne_of_lt (Nat.lt_of_lt_of_le Rx9aK.out.lt qx10)
  have NEwHgB : Hid (ghw ≠ gbg) := Nat.ne_of_lt (Nat.lt_of_lt_of_le Rx9wH.out.lt qx10)
  have NEwBgB : Hid (gbw ≠ gbg) := Nat.ne_of_lt (Nat.lt_of_lt_of_le Rx9wB.out.lt qx10)
  have NEwKgB : Hid (x5.heap.size ≠ gbg) := Nat.ne_of_lt (Nat.lt_of_lt_of_le Rx9wK.out.lt qx10)
  have NExHgB : Hid (ghx ≠ gbg) := Nat.ne_of_lt (Nat.lt_of_lt_of_le Rx9xH.out.lt qx10)
  have NExBgB : Hid (gbx ≠ gbg) := Nat.ne_of_lt (Nat.lt_of_lt_of_le Rx9xB.out.lt qx10)
  have NExKgB : Hid (x7.heap.size ≠ gbg) := Nat.ne_of_lt (Nat.lt_of_lt_of_le Rx9xK.out.lt qx10)
  have NExCgB : Hid (x8.heap.size ≠ gbg) := Nat.ne_of_lt (Nat.lt_of_lt_of_le Nx9.out.lt qx10)
  have GEgB : Hid (w.heap.size ≤ gbg) := Nat.le_trans Bx9.out.size qx10
  clear rhx10 rbx10 px10 qx10 nex10
  have Rx10aK : Hid (Blk x10 w.heap.size 39 [.slice a0 n0 c0, .slice a1 n1 c1, .int .i64 N]) := Rx9aK.out.later bx10
  clear Rx9aK
  have Rx10wH : Hid (IRow x10 ghw chw rH) := Rx9wH.out.later bx10
  clear Rx9wH
  have Rx10wB : Hid (Row x10 gbw cbw rB) := Rx9wB.out.later bx10
  clear Rx9wB
  have Rx10wK : Hid (Blk x10 x5.heap.size 27 [.slice (some ⟨ghw, 0, none⟩) mhw chw, .slice (some ⟨gbw, 0, none⟩) mbw cbw, .int .i64 rN]) := Rx9wK.out.later bx10
  clear Rx9wK
  have Rx10xH : Hid (IRow x10 ghx n0 lh) := Rx9xH.out.later bx10
  clear Rx9xH
  have Rx10xB : Hid (Row x10 gbx n1 lb) := Rx9xB.out.later bx10
  clear Rx9xB
  have Rx10xK : Hid (Blk x10 x7.heap.size 27 [.slice (some ⟨ghx, 0, none⟩) n0 n0, .slice (some ⟨gbx, 0, none⟩) n1 n1, .int .i64 N]) := Rx9xK.out.later bx10
  clear Rx9xK
  have Rx10xC : Hid (Row x10 x8.heap.size n2 lc) := Nx9.out.later bx10
  clear Nx9
  have Bx10 : Hid (Below w.heap.size w x10) := Bx9.out.trans (bx10.mono Bx9.out.size)
  clear Bx9
  clear bx10
  unfold hashV
  have bxaK0 := Rx10aK.out.cell 0 rfl
  have bxaK1 := Rx10aK.out.cell 1 rfl
  have bxaK2 := Rx10aK.out.cell 2 rfl
  have bxwK0 := Rx10wK.out.cell 0 rfl
  have bxwK1 := Rx10wK.out.cell 1 rfl
  have bxwK2 := Rx10wK.out.cell 2 rfl
  have bxxK0 := Rx10xK.out.cell 0 rfl
  have bxxK1 := Rx10xK.out.cell 1 rfl
  have bxxK2 := Rx10xK.out.cell 2 rfl
  have axaK0 := (Rx10aK.out.alloc (.cells #[.slice (some ⟨ghg, 0, none⟩) mhg chg, .slice (some ⟨gbg, 0, none⟩) mbg cbg, .int .i64 rN] 27)).cell 0 rfl
  have axaK1 := (Rx10aK.out.alloc (.cells #[.slice (some ⟨ghg, 0, none⟩) mhg chg, .slice (some ⟨gbg, 0, none⟩) mbg cbg, .int .i64 rN] 27)).cell 1 rfl
  have axaK2 := (Rx10aK.out.alloc (.cells #[.slice (some ⟨ghg, 0, none⟩) mhg chg, .slice (some ⟨gbg, 0, none⟩) mbg cbg, .int .i64 rN] 27)).cell 2 rfl
  have axwK0 := (Rx10wK.out.alloc (.cells #[.slice (some ⟨ghg, 0, none⟩) mhg chg, .slice (some ⟨gbg, 0, none⟩) mbg cbg, .int .i64 rN] 27)).cell 0 rfl
  have axwK1 := (Rx10wK.out.alloc (.cells #[.slice (some ⟨ghg, 0, none⟩) mhg chg, .slice (some ⟨gbg, 0, none⟩) mbg cbg, .int .i64 rN] 27)).cell 1 rfl
  have axwK2 := (Rx10wK.out.alloc (.cells #[.slice (some ⟨ghg, 0, none⟩) mhg chg, .slice (some ⟨gbg, 0, none⟩) mbg cbg, .int .i64 rN] 27)).cell 2 rfl
  have axxK0 := (Rx10xK.out.alloc (.cells #[.slice (some ⟨ghg, 0, none⟩) mhg chg, .slice (some ⟨gbg, 0, none⟩) mbg cbg, .int .i64 rN] 27)).cell 0 rfl
  have axxK1 := (Rx10xK.out.alloc (.cells #[.slice (some ⟨ghg, 0, none⟩) mhg chg, .slice (some ⟨gbg, 0, none⟩) mbg cbg, .int .i64 rN] 27)).cell 1 rfl
  have axxK2 := (Rx10xK.out.alloc (.cells #[.slice (some ⟨ghg, 0, none⟩) mhg chg, .slice (some ⟨gbg, 0, none⟩) mbg cbg, .int .i64 rN] 27)).cell 2 rfl
  obtain ⟨x11, hx11⟩ : ∃ x11, x10.alloc (.cells #[.slice (some ⟨ghg, 0, none⟩) mhg chg, .slice (some ⟨gbg, 0, none⟩) mbg cbg, .int .i64 rN] 27) = x11 := ⟨_, rfl⟩
  have HWx11 : Hid (x10.alloc (.cells #[.slice (some ⟨ghg, 0, none⟩) mhg chg, .slice (some ⟨gbg, 0, none⟩) mbg cbg, .int .i64 rN] 27) = x11) := hx11
  have Nx11 : Hid (Blk x11 x10.heap.size 27 [.slice (some ⟨ghg, 0, none⟩) mhg chg, .slice (some ⟨gbg, 0, none⟩) mbg cbg, .int .i64 rN]) := by rw [← hx11]; exact Blk.new x10 27 [.slice (some ⟨ghg, 0, none⟩) mhg chg, .slice (some ⟨gbg, 0, none⟩) mbg cbg, .int .i64 rN]
  have bx11 : Below x10.heap.size x10 x11 := by rw [← hx11]; exact (Below.refl _ _).alloc (Nat.le_refl _) _
  have bx11 : Hid (Below x10.heap.size x10 x11) := bx11
  clear hx11
  go_wp2_with fail
  rw [HWx11.out]
  clear bxaK0 bxaK1 bxaK2 bxwK0 bxwK1 bxwK2 bxxK0 bxxK1 bxxK2 axaK0 axaK1 axaK2 axwK0 axwK1 axwK2 axxK0 axxK1 axxK2
  have NEaKgK : Hid (w.heap.size ≠ x10.heap.size) := Nat.ne_of_lt (Nat.lt_of_lt_of_le Rx10aK.out.lt (Nat.le_refl _))
  have NEwHgK : Hid (ghw ≠ x10.heap.size) := Nat.ne_of_lt (Nat.lt_of_lt_of_le Rx10wH.out.lt (Nat.le_refl _))
  have NEwBgK : Hid (gbw ≠ x10.heap.size) := Nat.ne_of_lt (Nat.lt_of_lt_of_le Rx10wB.out.lt (Nat.le_refl _))
  have NEwKgK : Hid (x5.heap.size ≠ x10.heap.size) := Nat.ne_of_lt (Nat.lt_of_lt_of_le Rx10wK.out.lt (Nat.le_refl _))
  have NExHgK : Hid (ghx ≠ x10.heap.size) := Nat.ne_of_lt (Nat.lt_of_lt_of_le Rx10xH.out.lt (Nat.le_refl _))
  have NExBgK : Hid (gbx ≠ x10.heap.size) := Nat.ne_of_lt (Nat.lt_of_lt_of_le Rx10xB.out.lt (Nat.le_refl _))
  have NExKgK : Hid (x7.heap.size ≠ x10.heap.size) := Nat.ne_of_lt (Nat.lt_of_lt_of_le Rx10xK.out.lt (Nat.le_refl _))
  have NExCgK : Hid (x8.heap.size ≠ x10.heap.size) := Nat.ne_of_lt (Nat.lt_of_lt_of_le Rx10xC.out.lt (Nat.le_refl _))
  have NEgHgK : Hid (ghg ≠ x10.heap.size) := Nat.ne_of_lt (Nat.lt_of_lt_of_le Nx10H.out.lt (Nat.le_refl _))
  have NEgBgK : Hid (gbg ≠ x10.heap.size) := Nat.ne_of_lt (Nat.lt_of_lt_of_le Nx10B.out.lt (Nat.le_refl _))
  have GEgK : Hid (w.heap.size ≤ x10.heap.size) := Nat.le_trans Bx10.out.size (Nat.le_refl _)
  have bx11 := bx11.out
  have Rx11aK : Hid (Blk x11 w.heap.size 39 [.slice a0 n0 c0, .slice a1 n1 c1, .int .i64 N]) := Rx10aK.out.later bx11
  clear Rx10aK
  have Rx11wH : Hid (IRow x11 ghw chw rH) := Rx10wH.out.later bx11
  clear Rx10wH
  have Rx11wB : Hid (Row x11 gbw cbw rB) := Rx10wB.out.later bx11
  clear Rx10wB
  have Rx11wK : Hid (Blk x11 x5.heap.size 27 [.slice (some ⟨ghw, 0, none⟩) mhw chw, .slice (some ⟨gbw, 0, none⟩) mbw cbw, .int .i64 rN]) := Rx10wK.out.later bx11
  clear Rx10wK
  have Rx11xH : Hid (IRow x11 ghx n0 lh) := Rx10xH.out.later bx11
  clear Rx10xH
  have Rx11xB : Hid (Row x11 gbx n1 lb) := Rx10xB.out.later bx11
  clear Rx10xB
  have Rx11xK : Hid (Blk x11 x7.heap.size 27 [.slice (some ⟨ghx, 0, none⟩) n0 n0, .slice (some ⟨gbx, 0, none⟩) n1 n1, .int .i64 N]) := Rx10xK.out.later bx11
  clear Rx10xK
  have Rx11xC : Hid (Row x11 x8.heap.size n2 lc) := Rx10xC.out.later bx11
  clear Rx10xC
  have Rx11gH : Hid (IRow x11 ghg chg rH) := Nx10H.out.later bx11
  clear Nx10H
  have Rx11gB : Hid (Row x11 gbg cbg rB) := Nx10B.out.later bx11
  clear Nx10B
  have Bx11 : Hid (Below w.heap.size w x11) := Bx10.out.trans (bx11.mono Bx10.out.size)
  clear Bx10
  clear bx11
  refine (eqHash _ mhg chg _ mbg cbg _ mhw chw _ mbw cbw rN rH rB _ Ehg.out Ebg.out Ehw.out Ebw.out Rx11gH.out.rd Rx11gB.out.rd Rx11wH.out.rd Rx11wB.out.rd (by have := HPH.out; omega) (by have := HPB.out; omega)).mono ?_
  rintro e x12 ⟨rfl, bx12⟩
  have Rx12aK : Hid (Blk x12 w.heap.size 39 [.slice a0 n0 c0, .slice a1 n1 c1, .int .i64 N]) := Rx11aK.out.later bx12
  clear Rx11aK
  have Rx12wH : Hid (IRow x12 ghw chw rH) := Rx11wH.out.later bx12
  clear Rx11wH
  have Rx12wB : Hid (Row x12 gbw cbw rB) := Rx11wB.out.later bx12
  clear Rx11wB
  have Rx12wK : Hid (Blk x12 x5.heap.size 27 [.slice (some ⟨ghw, 0, none⟩) mhw chw, .slice (some ⟨gbw, 0, none⟩) mbw cbw, .int .i64 rN]) := Rx11wK.out.later bx12
  clear Rx11wK
  have Rx12xH : Hid (IRow x12 ghx n0 lh) := Rx11xH.out.later bx12
  clear Rx11xH
  have Rx12xB : Hid (Row x12 gbx n1 lb) := Rx11xB.out.later bx12
  clear Rx11xB
  have Rx12xK : Hid (Blk x12 x7.heap.size 27 [.slice (some ⟨ghx, 0, none⟩) n0 n0, .slice (some ⟨gbx, 0, none⟩) n1 n1, .int .i64 N]) := Rx11xK.out.later bx12
  clear Rx11xK
  have Rx12xC : Hid (Row x12 x8.heap.size n2 lc) := Rx11xC.out.later bx12
  clear Rx11xC
  have Rx12gH : Hid (IRow x12 ghg chg rH) := Rx11gH.out.later bx12
  clear Rx11gH
  have Rx12gB : Hid (Row x12 gbg cbg rB) := Rx11gB.out.later bx12
  clear Rx11gB
  have Rx12gK : Hid (Blk x12 x10.heap.size 27 [.slice (some ⟨ghg, 0, none⟩) mhg chg, .slice (some ⟨gbg, 0, none⟩) mbg cbg, .int .i64 rN]) := Nx11.out.later bx12
  clear Nx11
  have Bx12 : Hid (Below w.heap.size w x12) := Bx11.out.trans (bx12.mono Bx11.out.size)
  clear Bx11
  clear bx12
  have bxaK0 := Rx12aK.out.cell 0 rfl
  have bxaK1 := Rx12aK.out.cell 1 rfl
  have bxaK2 := Rx12aK.out.cell 2 rfl
  have bxwK0 := Rx12wK.out.cell 0 rfl
  have bxwK1 := Rx12wK.out.cell 1 rfl
  have bxwK2 := Rx12wK.out.cell 2 rfl
  have bxxK0 := Rx12xK.out.cell 0 rfl
  have bxxK1 := Rx12xK.out.cell 1 rfl
  have bxxK2 := Rx12xK.out.cell 2 rfl
  have bxgK0 := Rx12gK.out.cell 0 rfl
  have bxgK1 := Rx12gK.out.cell 1 rfl
  have bxgK2 := Rx12gK.out.cell 2 rfl
  go_wp2
  go_region_held3 (fun w' => w'.cell? ⟨x7.heap.size, 0, none⟩ = some (.slice (some ⟨ghx, 0, none⟩) n0 n0) ∧ w'.cell? ⟨x7.heap.size, 1, none⟩ = some (.slice (some ⟨gbx, 0, none⟩) n1 n1) ∧ w'.cell? ⟨x7.heap.size, 2, none⟩ = some (.int .i64 N) ∧ w'.cell? ⟨w.heap.size, 0, none⟩ = some (.slice a0 n0 c0) ∧ w'.cell? ⟨w.heap.size, 1, none⟩ = some (.slice a1 n1 c1) ∧ w'.cell? ⟨w.heap.size, 2, none⟩ = some (.int .i64 N)) (first | exact ⟨bxxK0, bxxK1, bxxK2, bxaK0, bxaK1, bxaK2⟩ | exact ⟨kyxK0, kyxK1, kyxK2, kyaK0, kyaK1, kyaK2⟩ | go_keep) (first | (go_at_call 34; refine (toHash a0 n0 c0 a1 n1 c1 N lh lb x12.drew HL0.out HL1.out (HR0.out.later Bx12.out.drew (Nat.le_refl _)) (HR1.out.later Bx12.out.drew (Nat.le_refl _)) (by omega) (by omega)).mono ?_; rintro e x13 ⟨ghy, gby, rfl, py, qy, ney, rhy, rby, bx13⟩; have kyxK0 := (Blk.later (blk_drew Rx12xK.out) bx13).cell 0 rfl; have kyxK1 := (Blk.later (blk_drew Rx12xK.out) bx13).cell 1 rfl; have kyxK2 := (Blk.later (blk_drew Rx12xK.out) bx13).cell 2 rfl; have kyaK0 := (Blk.later (blk_drew Rx12aK.out) bx13).cell 0 rfl; have kyaK1 := (Blk.later (blk_drew Rx12aK.out) bx13).cell 1 rfl; have kyaK2 := (Blk.later (blk_drew Rx12aK.out) bx13).cell 2 rfl) | (go_at_call 36; refine (eqHash _ n0 n0 _ n1 n1 _ n0 n0 _ n1 n1 N lh lb x13 HL0.out HL1.out HL0.out HL1.out (IRow.later (w := x12.drew) Rx12xH.out bx13).rd (Row.later (w := x12.drew) Rx12xB.out bx13).rd rhy.rd rby.rd (by rw [← HL0.out]; omega) (by rw [← HL1.out]; omega)).mono ?_; rintro e x14 ⟨rfl, bx14⟩; have kyxK0 := (Blk.later (Blk.later (blk_drew Rx12xK.out) bx13) bx14).cell 0 rfl; have kyxK1 := (Blk.later (Blk.later (blk_drew Rx12xK.out) bx13) bx14).cell 1 rfl; have kyxK2 := (Blk.later (Blk.later (blk_drew Rx12xK.out) bx13) bx14).cell 2 rfl; have kyaK0 := (Blk.later (Blk.later (blk_drew Rx12aK.out) bx13) bx14).cell 0 rfl; have kyaK1 := (Blk.later (Blk.later (blk_drew Rx12aK.out) bx13) bx14).cell 1 rfl; have kyaK2 := (Blk.later (Blk.later (blk_drew Rx12aK.out) bx13) bx14).cell 2 rfl))
  clear bxaK0 bxaK1 bxaK2 bxwK0 bxwK1 bxwK2 bxxK0 bxxK1 bxxK2 bxgK0 bxgK1 bxgK2
  clear kyxK0 kyxK1 kyxK2 kyaK0 kyaK1 kyaK2
  clear rhy rby py qy ney
  have bzx14 : Below x12.heap.size x12 x14 := (Below.drew (Below.refl _ _)).trans ((bx13 : Below x12.heap.size x12.drew x13).trans ((bx14 : Below x13.heap.size x13 x14).mono (bx13.size : x12.heap.size ≤ x13.heap.size)))
  clear bx13 bx14
  have Rx14aK : Hid (Blk x14 w.heap.size 39 [.slice a0 n0 c0, .slice a1 n1 c1, .int .i64 N]) := Rx12aK.out.later bzx14
  clear Rx12aK
  have Rx14wH : Hid (IRow x14 ghw chw rH) := Rx12wH.out.later bzx14
  clear Rx12wH
  have Rx14wB : Hid (Row x14 gbw cbw rB) := Rx12wB.out.later bzx14
  clear Rx12wB
  have Rx14wK : Hid (Blk x14 x5.heap.size 27 [.slice (some ⟨ghw, 0, none⟩) mhw chw, .slice (some ⟨gbw, 0, none⟩) mbw cbw, .int .i64 rN]) := Rx12wK.out.later bzx14
  clear Rx12wK
  have Rx14xH : Hid (IRow x14 ghx n0 lh) := Rx12xH.out.later bzx14
  clear Rx12xH
  have Rx14xB : Hid (Row x14 gbx n1 lb) := Rx12xB.out.later bzx14
  clear Rx12xB
  have Rx14xK : Hid (Blk x14 x7.heap.size 27 [.slice (some ⟨ghx, 0, none⟩) n0 n0, .slice (some ⟨gbx, 0, none⟩) n1 n1, .int .i64 N]) := Rx12xK.out.later bzx14
  clear Rx12xK
  have Rx14xC : Hid (Row x14 x8.heap.size n2 lc) := Rx12xC.out.later bzx14
  clear Rx12xC
  have Rx14gH : Hid (IRow x14 ghg chg rH) := Rx12gH.out.later bzx14
  clear Rx12gH
  have Rx14gB : Hid (Row x14 gbg cbg rB) := Rx12gB.out.later bzx14
  clear Rx12gB
  have Rx14gK : Hid (Blk x14 x10.heap.size 27 [.slice (some ⟨ghg, 0, none⟩) mhg chg, .slice (some ⟨gbg, 0, none⟩) mbg cbg, .int .i64 rN]) := Rx12gK.out.later bzx14
  clear Rx12gK
  have Bx14 : Hid (Below w.heap.size w x14) := Bx12.out.trans (bzx14.mono Bx12.out.size)
  clear Bx12
  clear bzx14
  have bxaK0 := Rx14aK.out.cell 0 rfl
  have bxaK1 := Rx14aK.out.cell 1 rfl
  have bxaK2 := Rx14aK.out.cell 2 rfl
  have bxwK0 := Rx14wK.out.cell 0 rfl
  have bxwK1 := Rx14wK.out.cell 1 rfl
  have bxwK2 := Rx14wK.out.cell 2 rfl
  have bxxK0 := Rx14xK.out.cell 0 rfl
  have bxxK1 := Rx14xK.out.cell 1 rfl
  have bxxK2 := Rx14xK.out.cell 2 rfl
  have bxgK0 := Rx14gK.out.cell 0 rfl
  have bxgK1 := Rx14gK.out.cell 1 rfl
  have bxgK2 := Rx14gK.out.cell 2 rfl
  go_wp2_with fail
  clear bxaK0 bxaK1 bxaK2 bxwK0 bxwK1 bxwK2 bxxK0 bxxK1 bxxK2 bxgK0 bxgK1 bxgK2
  refine (toByteS a2 n2 c2 lc _ HL2.out (HR2.out.later Bx14.out (Nat.le_refl _)) (by rw [← HL2.out]; omega)).mono ?_
  rintro e x15 ⟨rfl, rx15, bx15⟩
  have Nx15 : Hid (Row x15 x14.heap.size n2 lc) := rx15
  clear rx15
  have NEaKtC : Hid (w.heap.size ≠ x14.heap.size) := Nat.ne_of_lt (Nat.lt_of_lt_of_le Rx14aK.out.lt (Nat.le_refl _))
  have NEwHtC : Hid (ghw ≠ x14.heap.size) := Nat.ne_of_lt (Nat.lt_of_lt_of_le Rx14wH.out.lt (Nat.le_refl _))
  have NEwBtC : Hid (gbw ≠ x14.heap.size) := Nat.ne_of_lt (Nat.lt_of_lt_of_le Rx14wB.out.lt (Nat.le_refl _))
  have NEwKtC : Hid (x5.heap.size ≠ x14.heap.size) := Nat.ne_of_lt (Nat.lt_of_lt_of_le Rx14wK.out.lt (Nat.le_refl _))
  have NExHtC : Hid (ghx ≠ x14.heap.size) := Nat.ne_of_lt (Nat.lt_of_lt_of_le Rx14xH.out.lt (Nat.le_refl _))
  have NExBtC : Hid (gbx ≠ x14.heap.size) := Nat.ne_of_lt (Nat.lt_of_lt_of_le Rx14xB.out.lt (Nat.le_refl _))
  have NExKtC : Hid (x7.heap.size ≠ x14.heap.size) := Nat.ne_of_lt (Nat.lt_of_lt_of_le Rx14xK.out.lt (Nat.le_refl _))
  have NExCtC : Hid (x8.heap.size ≠ x14.heap.size) := Nat.ne_of_lt (Nat.lt_of_lt_of_le Rx14xC.out.lt (Nat.le_refl _))
  have NEgHtC : Hid (ghg ≠ x14.heap.size) := Nat.ne_of_lt (Nat.lt_of_lt_of_le Rx14gH.out.lt (Nat.le_refl _))
  have NEgBtC : Hid (gbg ≠ x14.heap.size) := Nat.ne_of_lt (Nat.lt_of_lt_of_le Rx14gB.out.lt (Nat.le_refl _))
  have NEgKtC : Hid (x10.heap.size ≠ x14.heap.size) := Nat.ne_of_lt (Nat.lt_of_lt_of_le Rx14gK.out.lt (Nat.le_refl _))
  have GEtC : Hid (w.heap.size ≤ x14.heap.size) := Nat.le_trans Bx14.out.size (Nat.le_refl _)
  have Rx15aK : Hid (Blk x15 w.heap.size 39 [.slice a0 n0 c0, .slice a1 n1 c1, .int .i64 N]) := Rx14aK.out.later bx15
  clear Rx14aK
  have Rx15wH : Hid (IRow x15 ghw chw rH) := Rx14wH.out.later bx15
  clear Rx14wH
  have Rx15wB : Hid (Row x15 gbw cbw rB) := Rx14wB.out.later bx15
  clear Rx14wB
  have Rx15wK : Hid (Blk x15 x5.heap.size 27 [.slice (some ⟨ghw, 0, none⟩) mhw chw, .slice (some ⟨gbw, 0, none⟩) mbw cbw, .int .i64 rN]) := Rx14wK.out.later bx15
  clear Rx14wK
  have Rx15xH : Hid (IRow x15 ghx n0 lh) := Rx14xH.out.later bx15
  clear Rx14xH
  have Rx15xB : Hid (Row x15 gbx n1 lb) := Rx14xB.out.later bx15
  clear Rx14xB
  have Rx15xK : Hid (Blk x15 x7.heap.size 27 [.slice (some ⟨ghx, 0, none⟩) n0 n0, .slice (some ⟨gbx, 0, none⟩) n1 n1, .int .i64 N]) := Rx14xK.out.later bx15
  clear Rx14xK
  have Rx15xC : Hid (Row x15 x8.heap.size n2 lc) := Rx14xC.out.later bx15
  clear Rx14xC
  have Rx15gH : Hid (IRow x15 ghg chg rH) := Rx14gH.out.later bx15
  clear Rx14gH
  have Rx15gB : Hid (Row x15 gbg cbg rB) := Rx14gB.out.later bx15
  clear Rx14gB
  have Rx15gK : Hid (Blk x15 x10.heap.size 27 [.slice (some ⟨ghg, 0, none⟩) mhg chg, .slice (some ⟨gbg, 0, none⟩) mbg cbg, .int .i64 rN]) := Rx14gK.out.later bx15
  clear Rx14gK
  have Bx15 : Hid (Below w.heap.size w x15) := Bx14.out.trans (bx15.mono Bx14.out.size)
  clear Bx14
  clear bx15
  have bxaK0 := Rx15aK.out.cell 0 rfl
  have bxaK1 := Rx15aK.out.cell 1 rfl
  have bxaK2 := Rx15aK.out.cell 2 rfl
  have bxwK0 := Rx15wK.out.cell 0 rfl
  have bxwK1 := Rx15wK.out.cell 1 rfl
  have bxwK2 := Rx15wK.out.cell 2 rfl
  have bxxK0 := Rx15xK.out.cell 0 rfl
  have bxxK1 := Rx15xK.out.cell 1 rfl
  have bxxK2 := Rx15xK.out.cell 2 rfl
  have bxgK0 := Rx15gK.out.cell 0 rfl
  have bxgK1 := Rx15gK.out.cell 1 rfl
  have bxgK2 := Rx15gK.out.cell 2 rfl
  go_wp2_with fail
  clear bxaK0 bxaK1 bxaK2 bxwK0 bxwK1 bxwK2 bxxK0 bxxK1 bxxK2 bxgK0 bxgK1 bxgK2
  refine (eqByteS _ _ n2 n2 n2 n2 lc lc _ HL2.out HL2.out Rx15xC.out.rd Nx15.out.rd (by rw [← HL2.out]; omega) (by rw [← HL2.out]; omega)).mono ?_
  rintro e x16 ⟨rfl, mx16, dx16⟩
  have bx16 : Below x15.heap.size x15 x16 := by rw [dx16]; exact below_drewN (Below.refl _ _) _
  clear dx16
  have Rx16aK : Hid (Blk x16 w.heap.size 39 [.slice a0 n0 c0, .slice a1 n1 c1, .int .i64 N]) := Rx15aK.out.later bx16
  clear Rx15aK
  have Rx16wH : Hid (IRow x16 ghw chw rH) := Rx15wH.out.later bx16
  clear Rx15wH
  have Rx16wB : Hid (Row x16 gbw cbw rB) := Rx15wB.out.later bx16
  clear Rx15wB
  have Rx16wK : Hid (Blk x16 x5.heap.size 27 [.slice (some ⟨ghw, 0, none⟩) mhw chw, .slice (some ⟨gbw, 0, none⟩) mbw cbw, .int .i64 rN]) := Rx15wK.out.later bx16
  clear Rx15wK
  have Rx16xH : Hid (IRow x16 ghx n0 lh) := Rx15xH.out.later bx16
  clear Rx15xH
  have Rx16xB : Hid (Row x16 gbx n1 lb) := Rx15xB.out.later bx16
  clear Rx15xB
  have Rx16xK : Hid (Blk x16 x7.heap.size 27 [.slice (some ⟨ghx, 0, none⟩) n0 n0, .slice (some ⟨gbx, 0, none⟩) n1 n1, .int .i64 N]) := Rx15xK.out.later bx16
  clear Rx15xK
  have Rx16xC : Hid (Row x16 x8.heap.size n2 lc) := Rx15xC.out.later bx16
  clear Rx15xC
  have Rx16gH : Hid (IRow x16 ghg chg rH) := Rx15gH.out.later bx16
  clear Rx15gH
  have Rx16gB : Hid (Row x16 gbg cbg rB) := Rx15gB.out.later bx16
  clear Rx15gB
  have Rx16gK : Hid (Blk x16 x10.heap.size 27 [.slice (some ⟨ghg, 0, none⟩) mhg chg, .slice (some ⟨gbg, 0, none⟩) mbg cbg, .int .i64 rN]) := Rx15gK.out.later bx16
  clear Rx15gK
  have Rx16tC : Hid (Row x16 x14.heap.size n2 lc) := Nx15.out.later bx16
  clear Nx15
  have Bx16 : Hid (Below w.heap.size w x16) := Bx15.out.trans (bx16.mono Bx15.out.size)
  clear Bx15
  clear bx16
  clear Rx16tC
  have bxaK0 := Rx16aK.out.cell 0 rfl
  have bxaK1 := Rx16aK.out.cell 1 rfl
  have bxaK2 := Rx16aK.out.cell 2 rfl
  have bxwK0 := Rx16wK.out.cell 0 rfl
  have bxwK1 := Rx16wK.out.cell 1 rfl
  have bxwK2 := Rx16wK.out.cell 2 rfl
  have bxxK0 := Rx16xK.out.cell 0 rfl
  have bxxK1 := Rx16xK.out.cell 1 rfl
  have bxxK2 := Rx16xK.out.cell 2 rfl
  have bxgK0 := Rx16gK.out.cell 0 rfl
  have bxgK1 := Rx16gK.out.cell 1 rfl
  have bxgK2 := Rx16gK.out.cell 2 rfl
  go_wp2_with fail
  clear bxaK0 bxaK1 bxaK2 bxwK0 bxwK1 bxwK2 bxxK0 bxxK1 bxxK2 bxgK0 bxgK1 bxgK2
  refine (markHash ghx n0 n0 gbx n1 n1 N lh lb 1 _ HL0.out HL1.out Rx16xH.out Rx16xB.out NExHxB.out (by rw [← HL0.out]; omega) (by rw [← HL1.out]; omega) (by omega) (by omega)).mono ?_
  rintro e x17 ⟨rfl, rx17, ux17, tx17⟩
  have Nx17H : Hid (IRow x17 ghx n0 (imarks 1 n0)) := rx17
  have Nx17B : Hid (Row x17 gbx n1 (marks (1 + n0) n1)) := ux17
  clear rx17 ux17 Rx16xH Rx16xB
  have Rx17aK : Hid (Blk x17 w.heap.size 39 [.slice a0 n0 c0, .slice a1 n1 c1, .int .i64 N]) := Rx16aK.out.keep (tx17.2.2.2.2 _ Rx16aK.out.lt NEaKxH.out NEaKxB.out)
  clear Rx16aK
  have Rx17wH : Hid (IRow x17 ghw chw rH) := Rx16wH.out.keep (tx17.2.2.2.2 _ Rx16wH.out.lt NEwHxH.out NEwHxB.out)
  clear Rx16wH
  have Rx17wB : Hid (Row x17 gbw cbw rB) := Rx16wB.out.keep (tx17.2.2.2.2 _ Rx16wB.out.lt NEwBxH.out NEwBxB.out)
  clear Rx16wB
  have Rx17wK : Hid (Blk x17 x5.heap.size 27 [.slice (some ⟨ghw, 0, none⟩) mhw chw, .slice (some ⟨gbw, 0, none⟩) mbw cbw, .int .i64 rN]) := Rx16wK.out.keep (tx17.2.2.2.2 _ Rx16wK.out.lt NEwKxH.out NEwKxB.out)
  clear Rx16wK
  have Rx17xK : Hid (Blk x17 x7.heap.size 27 [.slice (some ⟨ghx, 0, none⟩) n0 n0, .slice (some ⟨gbx, 0, none⟩) n1 n1, .int .i64 N]) := Rx16xK.out.keep (tx17.2.2.2.2 _ Rx16xK.out.lt (Ne.symm NExHxK.out) (Ne.symm NExBxK.out))
  clear Rx16xK
  have Rx17xC : Hid (Row x17 x8.heap.size n2 lc) := Rx16xC.out.keep (tx17.2.2.2.2 _ Rx16xC.out.lt (Ne.symm NExHxC.out) (Ne.symm NExBxC.out))
  clear Rx16xC
  have Rx17gH : Hid (IRow x17 ghg chg rH) := Rx16gH.out.keep (tx17.2.2.2.2 _ Rx16gH.out.lt (Ne.symm NExHgH.out) (Ne.symm NExBgH.out))
  clear Rx16gH
  have Rx17gB : Hid (Row x17 gbg cbg rB) := Rx16gB.out.keep (tx17.2.2.2.2 _ Rx16gB.out.lt (Ne.symm NExHgB.out) (Ne.symm NExBgB.out))
  clear Rx16gB
  have Rx17gK : Hid (Blk x17 x10.heap.size 27 [.slice (some ⟨ghg, 0, none⟩) mhg chg, .slice (some ⟨gbg, 0, none⟩) mbg cbg, .int .i64 rN]) := Rx16gK.out.keep (tx17.2.2.2.2 _ Rx16gK.out.lt (Ne.symm NExHgK.out) (Ne.symm NExBgK.out))
  clear Rx16gK
  have Bx17 : Hid (Below w.heap.size w x17) := tx17.below Bx16.out GExH.out GExB.out
  clear Bx16 tx17
  have bxaK0 := Rx17aK.out.cell 0 rfl
  have bxaK1 := Rx17aK.out.cell 1 rfl
  have bxaK2 := Rx17aK.out.cell 2 rfl
  have bxwK0 := Rx17wK.out.cell 0 rfl
  have bxwK1 := Rx17wK.out.cell 1 rfl
  have bxwK2 := Rx17wK.out.cell 2 rfl
  have bxxK0 := Rx17xK.out.cell 0 rfl
  have bxxK1 := Rx17xK.out.cell 1 rfl
  have bxxK2 := Rx17xK.out.cell 2 rfl
  have bxgK0 := Rx17gK.out.cell 0 rfl
  have bxgK1 := Rx17gK.out.cell 1 rfl
  have bxgK2 := Rx17gK.out.cell 2 rfl
  go_wp2_with fail
  clear bxaK0 bxaK1 bxaK2 bxwK0 bxwK1 bxwK2 bxxK0 bxxK1 bxxK2 bxgK0 bxgK1 bxgK2
  refine (markByteS x8.heap.size n2 n2 lc (1 + (n0 : Int) + (n1 : Int)) _ HL2.out Rx17xC.out (by rw [← HL2.out]; omega) (by omega) (by omega)).mono ?_
  rintro e x18 ⟨rfl, rx18, qx18⟩
  have Nx18 : Hid (Row x18 x8.heap.size n2 (marks (1 + (n0 : Int) + (n1 : Int)) n2)) := rx18
  clear rx18
  clear Rx17xC
  have Rx18aK : Hid (Blk x18 w.heap.size 39 [.slice a0 n0 c0, .slice a1 n1 c1, .int .i64 N]) := Rx17aK.out.keep (qx18.block _ Rx17aK.out.lt (by simp only [ne_eq, Option.some.injEq]; exact NEaKxC.out))
  clear Rx17aK
  have Rx18wH : Hid (IRow x18 ghw chw rH) := Rx17wH.out.keep (qx18.block _ Rx17wH.out.lt (by simp only [ne_eq, Option.some.injEq]; exact NEwHxC.out))
  clear Rx17wH
  have Rx18wB : Hid (Row x18 gbw cbw rB) := Rx17wB.out.keep (qx18.block _ Rx17wB.out.lt (by simp only [ne_eq, Option.some.injEq]; exact NEwBxC.out))
  clear Rx17wB
  have Rx18wK : Hid (Blk x18 x5.heap.size 27 [.slice (some ⟨ghw, 0, none⟩) mhw chw, .slice (some ⟨gbw, 0, none⟩) mbw cbw, .int .i64 rN]) := Rx17wK.out.keep (qx18.block _ Rx17wK.out.lt (by simp only [ne_eq, Option.some.injEq]; exact NEwKxC.out))
  clear Rx17wK
  have Rx18xK : Hid (Blk x18 x7.heap.size 27 [.slice (some ⟨ghx, 0, none⟩) n0 n0, .slice (some ⟨gbx, 0, none⟩) n1 n1, .int .i64 N]) := Rx17xK.out.keep (qx18.block _ Rx17xK.out.lt (by simp only [ne_eq, Option.some.injEq]; exact NExKxC.out))
  clear Rx17xK
  have Rx18gH : Hid (IRow x18 ghg chg rH) := Rx17gH.out.keep (qx18.block _ Rx17gH.out.lt (by simp only [ne_eq, Option.some.injEq]; exact (Ne.symm NExCgH.out)))
  clear Rx17gH
  have Rx18gB : Hid (Row x18 gbg cbg rB) := Rx17gB.out.keep (qx18.block _ Rx17gB.out.lt (by simp only [ne_eq, Option.some.injEq]; exact (Ne.symm NExCgB.out)))
  clear Rx17gB
  have Rx18gK : Hid (Blk x18 x10.heap.size 27 [.slice (some ⟨ghg, 0, none⟩) mhg chg, .slice (some ⟨gbg, 0, none⟩) mbg cbg, .int .i64 rN]) := Rx17gK.out.keep (qx18.block _ Rx17gK.out.lt (by simp only [ne_eq, Option.some.injEq]; exact (Ne.symm NExCgK.out)))
  clear Rx17gK
  have Rx18xH : Hid (IRow x18 ghx n0 (imarks 1 n0)) := Nx17H.out.keep (qx18.block _ Nx17H.out.lt (by simp only [ne_eq, Option.some.injEq]; exact NExHxC.out))
  clear Nx17H
  have Rx18xB : Hid (Row x18 gbx n1 (marks (1 + n0) n1)) := Nx17B.out.keep (qx18.block _ Nx17B.out.lt (by simp only [ne_eq, Option.some.injEq]; exact NExBxC.out))
  clear Nx17B
  have Bx18 : Hid (Below w.heap.size w x18) := Bx17.out.grown qx18 Bx17.out.size (fun k h => by cases h; exact GExC.out)
  clear Bx17 qx18
  have bxaK0 := Rx18aK.out.cell 0 rfl
  have bxaK1 := Rx18aK.out.cell 1 rfl
  have bxaK2 := Rx18aK.out.cell 2 rfl
  have bxwK0 := Rx18wK.out.cell 0 rfl
  have bxwK1 := Rx18wK.out.cell 1 rfl
  have bxwK2 := Rx18wK.out.cell 2 rfl
  have bxxK0 := Rx18xK.out.cell 0 rfl
  have bxxK1 := Rx18xK.out.cell 1 rfl
  have bxxK2 := Rx18xK.out.cell 2 rfl
  have bxgK0 := Rx18gK.out.cell 0 rfl
  have bxgK1 := Rx18gK.out.cell 1 rfl
  have bxgK2 := Rx18gK.out.cell 2 rfl
  go_wp2_with fail
  clear bxaK0 bxaK1 bxaK2 bxwK0 bxwK1 bxwK2 bxxK0 bxxK1 bxxK2 bxgK0 bxgK1 bxgK2
  refine (eqHash _ mhg chg _ mbg cbg _ mhw chw _ mbw cbw rN rH rB _ Ehg.out Ebg.out Ehw.out Ebw.out Rx18gH.out.rd Rx18gB.out.rd Rx18wH.out.rd Rx18wB.out.rd (by have := HPH.out; omega) (by have := HPB.out; omega)).mono ?_
  rintro e x19 ⟨rfl, bx19⟩
  have Rx19aK : Hid (Blk x19 w.heap.size 39 [.slice a0 n0 c0, .slice a1 n1 c1, .int .i64 N]) := Rx18aK.out.later bx19
  clear Rx18aK
  have Rx19wH : Hid (IRow x19 ghw chw rH) := Rx18wH.out.later bx19
  clear Rx18wH
  have Rx19wB : Hid (Row x19 gbw cbw rB) := Rx18wB.out.later bx19
  clear Rx18wB
  have Rx19wK : Hid (Blk x19 x5.heap.size 27 [.slice (some ⟨ghw, 0, none⟩) mhw chw, .slice (some ⟨gbw, 0, none⟩) mbw cbw, .int .i64 rN]) := Rx18wK.out.later bx19
  clear Rx18wK
  have Rx19xK : Hid (Blk x19 x7.heap.size 27 [.slice (some ⟨ghx, 0, none⟩) n0 n0, .slice (some ⟨gbx, 0, none⟩) n1 n1, .int .i64 N]) := Rx18xK.out.later bx19
  clear Rx18xK
  have Rx19gH : Hid (IRow x19 ghg chg rH) := Rx18gH.out.later bx19
  clear Rx18gH
  have Rx19gB : Hid (Row x19 gbg cbg rB) := Rx18gB.out.later bx19
  clear Rx18gB
  have Rx19gK : Hid (Blk x19 x10.heap.size 27 [.slice (some ⟨ghg, 0, none⟩) mhg chg, .slice (some ⟨gbg, 0, none⟩) mbg cbg, .int .i64 rN]) := Rx18gK.out.later bx19
  clear Rx18gK
  have Rx19xH : Hid (IRow x19 ghx n0 (imarks 1 n0)) := Rx18xH.out.later bx19
  clear Rx18xH
  have Rx19xB : Hid (Row x19 gbx n1 (marks (1 + n0) n1)) := Rx18xB.out.later bx19
  clear Rx18xB
  have Rx19xC : Hid (Row x19 x8.heap.size n2 (marks (1 + (n0 : Int) + (n1 : Int)) n2)) := Nx18.out.later bx19
  clear Nx18
  have Bx19 : Hid (Below w.heap.size w x19) := Bx18.out.trans (bx19.mono Bx18.out.size)
  clear Bx18
  clear bx19
  have bxaK0 := Rx19aK.out.cell 0 rfl
  have bxaK1 := Rx19aK.out.cell 1 rfl
  have bxaK2 := Rx19aK.out.cell 2 rfl
  have bxwK0 := Rx19wK.out.cell 0 rfl
  have bxwK1 := Rx19wK.out.cell 1 rfl
  have bxwK2 := Rx19wK.out.cell 2 rfl
  have bxxK0 := Rx19xK.out.cell 0 rfl
  have bxxK1 := Rx19xK.out.cell 1 rfl
  have bxxK2 := Rx19xK.out.cell 2 rfl
  have bxgK0 := Rx19gK.out.cell 0 rfl
  have bxgK1 := Rx19gK.out.cell 1 rfl
  have bxgK2 := Rx19gK.out.cell 2 rfl
  go_wp2_with fail
  clear bxaK0 bxaK1 bxaK2 bxwK0 bxwK1 bxwK2 bxxK0 bxxK1 bxxK2 bxgK0 bxgK1 bxgK2
  refine (markHash ghg mhg chg gbg mbg cbg rN rH rB 1 _ Ehg.out Ebg.out Rx19gH.out Rx19gB.out NEgHgB.out (by have := HPH.out; omega) (by have := HPB.out; omega) (by omega) (by omega)).mono ?_
  rintro e x20 ⟨rfl, rx20, ux20, tx20⟩
  have Nx20H : Hid (IRow x20 ghg chg (imarks 1 mhg)) := rx20
  have Nx20B : Hid (Row x20 gbg cbg (marks (1 + mhg) mbg)) := ux20
  clear rx20 ux20 Rx19gH Rx19gB
  have Rx20aK : Hid (Blk x20 w.heap.size 39 [.slice a0 n0 c0, .slice a1 n1 c1, .int .i64 N]) := Rx19aK.out.keep (tx20.2.2.2.2 _ Rx19aK.out.lt NEaKgH.out NEaKgB.out)
  clear Rx19aK
  have Rx20wH : Hid (IRow x20 ghw chw rH) := Rx19wH.out.keep (tx20.2.2.2.2 _ Rx19wH.out.lt NEwHgH.out NEwHgB.out)
  clear Rx19wH
  have Rx20wB : Hid (Row x20 gbw cbw rB) := Rx19wB.out.keep (tx20.2.2.2.2 _ Rx19wB.out.lt NEwBgH.out NEwBgB.out)
  clear Rx19wB
  have Rx20wK : Hid (Blk x20 x5.heap.size 27 [.slice (some ⟨ghw, 0, none⟩) mhw chw, .slice (some ⟨gbw, 0, none⟩) mbw cbw, .int .i64 rN]) := Rx19wK.out.keep (tx20.2.2.2.2 _ Rx19wK.out.lt NEwKgH.out NEwKgB.out)
  clear Rx19wK
  have Rx20xK : Hid (Blk x20 x7.heap.size 27 [.slice (some ⟨ghx, 0, none⟩) n0 n0, .slice (some ⟨gbx, 0, none⟩) n1 n1, .int .i64 N]) := Rx19xK.out.keep (tx20.2.2.2.2 _ Rx19xK.out.lt NExKgH.out NExKgB.out)
  clear Rx19xK
  have Rx20gK : Hid (Blk x20 x10.heap.size 27 [.slice (some ⟨ghg, 0, none⟩) mhg chg, .slice (some ⟨gbg, 0, none⟩) mbg cbg, .int .i64 rN]) := Rx19gK.out.keep (tx20.2.2.2.2 _ Rx19gK.out.lt (Ne.symm NEgHgK.out) (Ne.symm NEgBgK.out))
  clear Rx19gK
  have Rx20xH : Hid (IRow x20 ghx n0 (imarks 1 n0)) := Rx19xH.out.keep (tx20.2.2.2.2 _ Rx19xH.out.lt NExHgH.out NExHgB.out)
  clear Rx19xH
  have Rx20xB : Hid (Row x20 gbx n1 (marks (1 + n0) n1)) := Rx19xB.out.keep (tx20.2.2.2.2 _ Rx19xB.out.lt NExBgH.out NExBgB.out)
  clear Rx19xB
  have Rx20xC : Hid (Row x20 x8.heap.size n2 (marks (1 + (n0 : Int) + (n1 : Int)) n2)) := Rx19xC.out.keep (tx20.2.2.2.2 _ Rx19xC.out.lt NExCgH.out NExCgB.out)
  clear Rx19xC
  have Bx20 : Hid (Below w.heap.size w x20) := tx20.below Bx19.out GEgH.out GEgB.out
  clear Bx19 tx20
  have bxaK0 := Rx20aK.out.cell 0 rfl
  have bxaK1 := Rx20aK.out.cell 1 rfl
  have bxaK2 := Rx20aK.out.cell 2 rfl
  have bxwK0 := Rx20wK.out.cell 0 rfl
  have bxwK1 := Rx20wK.out.cell 1 rfl
  have bxwK2 := Rx20wK.out.cell 2 rfl
  have bxxK0 := Rx20xK.out.cell 0 rfl
  have bxxK1 := Rx20xK.out.cell 1 rfl
  have bxxK2 := Rx20xK.out.cell 2 rfl
  have bxgK0 := Rx20gK.out.cell 0 rfl
  have bxgK1 := Rx20gK.out.cell 1 rfl
  have bxgK2 := Rx20gK.out.cell 2 rfl
  go_wp2_with fail
  clear bxaK0 bxaK1 bxaK2 bxwK0 bxwK1 bxwK2 bxxK0 bxxK1 bxxK2 bxgK0 bxgK1 bxgK2
  refine (heldHash _ mhg chg _ mbg cbg rN 1 _ Nx20H.out.rd Nx20B.out.rd (by omega) (by omega) (by omega) (by omega)).mono ?_
  rintro e x21 ⟨rfl, bx21⟩
  have Rx21aK : Hid (Blk x21 w.heap.size 39 [.slice a0 n0 c0, .slice a1 n1 c1, .int .i64 N]) := Rx20aK.out.later bx21
  clear Rx20aK
  have Rx21wH : Hid (IRow x21 ghw chw rH) := Rx20wH.out.later bx21
  clear Rx20wH
  have Rx21wB : Hid (Row x21 gbw cbw rB) := Rx20wB.out.later bx21
  clear Rx20wB
  have Rx21wK : Hid (Blk x21 x5.heap.size 27 [.slice (some ⟨ghw, 0, none⟩) mhw chw, .slice (some ⟨gbw, 0, none⟩) mbw cbw, .int .i64 rN]) := Rx20wK.out.later bx21
  clear Rx20wK
  have Rx21xK : Hid (Blk x21 x7.heap.size 27 [.slice (some ⟨ghx, 0, none⟩) n0 n0, .slice (some ⟨gbx, 0, none⟩) n1 n1, .int .i64 N]) := Rx20xK.out.later bx21
  clear Rx20xK
  have Rx21gK : Hid (Blk x21 x10.heap.size 27 [.slice (some ⟨ghg, 0, none⟩) mhg chg, .slice (some ⟨gbg, 0, none⟩) mbg cbg, .int .i64 rN]) := Rx20gK.out.later bx21
  clear Rx20gK
  have Rx21xH : Hid (IRow x21 ghx n0 (imarks 1 n0)) := Rx20xH.out.later bx21
  clear Rx20xH
  have Rx21xB : Hid (Row x21 gbx n1 (marks (1 + n0) n1)) := Rx20xB.out.later bx21
  clear Rx20xB
  have Rx21xC : Hid (Row x21 x8.heap.size n2 (marks (1 + (n0 : Int) + (n1 : Int)) n2)) := Rx20xC.out.later bx21
  clear Rx20xC
  have Rx21gH : Hid (IRow x21 ghg chg (imarks 1 mhg)) := Nx20H.out.later bx21
  clear Nx20H
  have Rx21gB : Hid (Row x21 gbg cbg (marks (1 + mhg) mbg)) := Nx20B.out.later bx21
  clear Nx20B
  have Bx21 : Hid (Below w.heap.size w x21) := Bx20.out.trans (bx21.mono Bx20.out.size)
  clear Bx20
  clear bx21
  have bxaK0 := Rx21aK.out.cell 0 rfl
  have bxaK1 := Rx21aK.out.cell 1 rfl
  have bxaK2 := Rx21aK.out.cell 2 rfl
  have bxwK0 := Rx21wK.out.cell 0 rfl
  have bxwK1 := Rx21wK.out.cell 1 rfl
  have bxwK2 := Rx21wK.out.cell 2 rfl
  have bxxK0 := Rx21xK.out.cell 0 rfl
  have bxxK1 := Rx21xK.out.cell 1 rfl
  have bxxK2 := Rx21xK.out.cell 2 rfl
  have bxgK0 := Rx21gK.out.cell 0 rfl
  have bxgK1 := Rx21gK.out.cell 1 rfl
  have bxgK2 := Rx21gK.out.cell 2 rfl
  go_wp2_with fail
  clear bxaK0 bxaK1 bxaK2 bxwK0 bxwK1 bxwK2 bxxK0 bxxK1 bxxK2 bxgK0 bxgK1 bxgK2
  refine (toHash a0 n0 c0 a1 n1 c1 N lh lb _ HL0.out HL1.out (HR0.out.later Bx21.out (Nat.le_refl _)) (HR1.out.later Bx21.out (Nat.le_refl _)) (by omega) (by omega)).mono ?_
  rintro e x22 ⟨ghh, gbh, rfl, px22, qx22, nex22, rhx22, rbx22, bx22⟩
  have Nx22H : Hid (IRow x22 ghh n0 lh) := rhx22
  have Nx22B : Hid (Row x22 gbh n1 lb) := rbx22
  have NEhHhB : Hid (ghh ≠ gbh) := nex22
  have NEaKhH : Hid (w.heap.size ≠ ghh) := Nat.ne_of_lt (Nat.lt_of_lt_of_le Rx21aK.out.lt px22)
  have NEwHhH : Hid (ghw ≠ ghh) := Nat.ne_of_lt (Nat.lt_of_lt_of_le Rx21wH.out.lt px22)
  have NEwBhH : Hid (gbw ≠ ghh) := Nat.ne_of_lt (Nat.lt_of_lt_of_le Rx21wB.out.lt px22)
  have NEwKhH : Hid (x5.heap.size ≠ ghh) := Nat.ne_of_lt (Nat.lt_of_lt_of_le Rx21wK.out.lt px22)
  have NExKhH : Hid (x7.heap.size ≠ ghh) := Nat.ne_of_lt (Nat.lt_of_lt_of_le Rx21xK.out.lt px22)
  have NEgKhH : Hid (x10.heap.size ≠ ghh) := Nat.ne_of_lt (Nat.lt_of_lt_of_le Rx21gK.out.lt px22)
  have NExHhH : Hid (ghx ≠ ghh) := Nat.ne_of_lt (Nat.lt_of_lt_of_le Rx21xH.out.lt px22)
  have NExBhH : Hid (gbx ≠ ghh) := Nat.ne_of_lt (Nat.lt_of_lt_of_le Rx21xB.out.lt px22)
  have NExChH : Hid (x8.heap.size ≠ ghh) := Nat.ne_of_lt (Nat.lt_of_lt_of_le Rx21xC.out.lt px22)
  have NEgHhH : Hid (ghg ≠ ghh) := Nat.ne_of_lt (Nat.lt_of_lt_of_le Rx21gH.out.lt px22)
  have NEgBhH : Hid (gbg ≠ ghh) := Nat.ne_of_lt (Nat.lt_of_lt_of_le Rx21gB.out.lt px22)
  have GEhH : Hid (w.heap.size ≤ ghh) := Nat.le_trans Bx21.out.size px22
  have NEaKhB : Hid (w.heap.size ≠ gbh) := Nat.ne_of_lt (Nat.lt_of_lt_of_le Rx21aK.out.lt qx22)
  have NEwHhB : Hid (ghw ≠ gbh) := Nat.ne_of_lt (Nat.lt_of_lt_of_le Rx21wH.out.lt qx22)
  have NEwBhB : Hid (gbw ≠ gbh) := Nat.ne_of_lt (Nat.lt_of_lt_of_le Rx21wB.out.lt qx22)
  have NEwKhB : Hid (x5.heap.size ≠ gbh) := Nat.ne_of_lt (Nat.lt_of_lt_of_le Rx21wK.out.lt qx22)
  have NExKhB : Hid (x7.heap.size ≠ gbh) := Nat.ne_of_lt (Nat.lt_of_lt_of_le Rx21xK.out.lt qx22)
  have NEgKhB : Hid (x10.heap.size ≠ gbh) := Nat.ne_of_lt (Nat.lt_of_lt_of_le Rx21gK.out.lt qx22)
  have NExHhB : Hid (ghx ≠ gbh) := Nat.ne_of_lt (Nat.lt_of_lt_of_le Rx21xH.out.lt qx22)
  have NExBhB : Hid (gbx ≠ gbh) := Nat.ne_of_lt (Nat.lt_of_lt_of_le Rx21xB.out.lt qx22)
  have NExChB : Hid (x8.heap.size ≠ gbh) := Nat.ne_of_lt (Nat.lt_of_lt_of_le Rx21xC.out.lt qx22)
  have NEgHhB : Hid (ghg ≠ gbh) := Nat.ne_of_lt (Nat.lt_of_lt_of_le Rx21gH.out.lt qx22)
  have NEgBhB : Hid (gbg ≠ gbh) := Nat.ne_of_lt (Nat.lt_of_lt_of_le Rx21gB.out.lt qx22)
  have GEhB : Hid (w.heap.size ≤ gbh) := Nat.le_trans Bx21.out.size qx22
  clear rhx22 rbx22 px22 qx22 nex22
  have Rx22aK : Hid (Blk x22 w.heap.size 39 [.slice a0 n0 c0, .slice a1 n1 c1, .int .i64 N]) := Rx21aK.out.later bx22
  clear Rx21aK
  have Rx22wH : Hid (IRow x22 ghw chw rH) := Rx21wH.out.later bx22
  clear Rx21wH
  have Rx22wB : Hid (Row x22 gbw cbw rB) := Rx21wB.out.later bx22
  clear Rx21wB
  have Rx22wK : Hid (Blk x22 x5.heap.size 27 [.slice (some ⟨ghw, 0, none⟩) mhw chw, .slice (some ⟨gbw, 0, none⟩) mbw cbw, .int .i64 rN]) := Rx21wK.out.later bx22
  clear Rx21wK
  have Rx22xK : Hid (Blk x22 x7.heap.size 27 [.slice (some ⟨ghx, 0, none⟩) n0 n0, .slice (some ⟨gbx, 0, none⟩) n1 n1, .int .i64 N]) := Rx21xK.out.later bx22
  clear Rx21xK
  have Rx22gK : Hid (Blk x22 x10.heap.size 27 [.slice (some ⟨ghg, 0, none⟩) mhg chg, .slice (some ⟨gbg, 0, none⟩) mbg cbg, .int .i64 rN]) := Rx21gK.out.later bx22
  clear Rx21gK
  have Rx22xH : Hid (IRow x22 ghx n0 (imarks 1 n0)) := Rx21xH.out.later bx22
  clear Rx21xH
  have Rx22xB : Hid (Row x22 gbx n1 (marks (1 + n0) n1)) := Rx21xB.out.later bx22
  clear Rx21xB
  have Rx22xC : Hid (Row x22 x8.heap.size n2 (marks (1 + (n0 : Int) + (n1 : Int)) n2)) := Rx21xC.out.later bx22
  clear Rx21xC
  have Rx22gH : Hid (IRow x22 ghg chg (imarks 1 mhg)) := Rx21gH.out.later bx22
  clear Rx21gH
  have Rx22gB : Hid (Row x22 gbg cbg (marks (1 + mhg) mbg)) := Rx21gB.out.later bx22
  clear Rx21gB
  have Bx22 : Hid (Below w.heap.size w x22) := Bx21.out.trans (bx22.mono Bx21.out.size)
  clear Bx21
  clear bx22
  unfold hashV
  have bxaK0 := Rx22aK.out.cell 0 rfl
  have bxaK1 := Rx22aK.out.cell 1 rfl
  have bxaK2 := Rx22aK.out.cell 2 rfl
  have bxwK0 := Rx22wK.out.cell 0 rfl
  have bxwK1 := Rx22wK.out.cell 1 rfl
  have bxwK2 := Rx22wK.out.cell 2 rfl
  have bxxK0 := Rx22xK.out.cell 0 rfl
  have bxxK1 := Rx22xK.out.cell 1 rfl
  have bxxK2 := Rx22xK.out.cell 2 rfl
  have bxgK0 := Rx22gK.out.cell 0 rfl
  have bxgK1 := Rx22gK.out.cell 1 rfl
  have bxgK2 := Rx22gK.out.cell 2 rfl
  go_wp2_with fail
  clear bxaK0 bxaK1 bxaK2 bxwK0 bxwK1 bxwK2 bxxK0 bxxK1 bxxK2 bxgK0 bxgK1 bxgK2
  refine (toByteS a2 n2 c2 lc _ HL2.out (HR2.out.later Bx22.out (Nat.le_refl _)) (by rw [← HL2.out]; omega)).mono ?_
  rintro e x23 ⟨rfl, rx23, bx23⟩
  have Nx23 : Hid (Row x23 x22.heap.size n2 lc) := rx23
  clear rx23
  have NEaKhC : Hid (w.heap.size ≠ x22.heap.size) := Nat.ne_of_lt (Nat.lt_of_lt_of_le Rx22aK.out.lt (Nat.le_refl _))
  have NEwHhC : Hid (ghw ≠ x22.heap.size) := Nat.ne_of_lt (Nat.lt_of_lt_of_le Rx22wH.out.lt (Nat.le_refl _))
  have NEwBhC : Hid (gbw ≠ x22.heap.size) := Nat.ne_of_lt (Nat.lt_of_lt_of_le Rx22wB.out.lt (Nat.le_refl _))
  have NEwKhC : Hid (x5.heap.size ≠ x22.heap.size) := Nat.ne_of_lt (Nat.lt_of_lt_of_le Rx22wK.out.lt (Nat.le_refl _))
  have NExKhC : Hid (x7.heap.size ≠ x22.heap.size) := Nat.ne_of_lt (Nat.lt_of_lt_of_le Rx22xK.out.lt (Nat.le_refl _))
  have NEgKhC : Hid (x10.heap.size ≠ x22.heap.size) := Nat.ne_of_lt (Nat.lt_of_lt_of_le Rx22gK.out.lt (Nat.le_refl _))
  have NExHhC : Hid (ghx ≠ x22.heap.size) := Nat.ne_of_lt (Nat.lt_of_lt_of_le Rx22xH.out.lt (Nat.le_refl _))
  have NExBhC : Hid (gbx ≠ x22.heap.size) := Nat.ne_of_lt (Nat.lt_of_lt_of_le Rx22xB.out.lt (Nat.le_refl _))
  have NExChC : Hid (x8.heap.size ≠ x22.heap.size) := Nat.ne_of_lt (Nat.lt_of_lt_of_le Rx22xC.out.lt (Nat.le_refl _))
  have NEgHhC : Hid (ghg ≠ x22.heap.size) := Nat.ne_of_lt (Nat.lt_of_lt_of_le Rx22gH.out.lt (Nat.le_refl _))
  have NEgBhC : Hid (gbg ≠ x22.heap.size) := Nat.ne_of_lt (Nat.lt_of_lt_of_le Rx22gB.out.lt (Nat.le_refl _))
  have NEhHhC : Hid (ghh ≠ x22.heap.size) := Nat.ne_of_lt (Nat.lt_of_lt_of_le Nx22H.out.lt (Nat.le_refl _))
  have NEhBhC : Hid (gbh ≠ x22.heap.size) := Nat.ne_of_lt (Nat.lt_of_lt_of_le Nx22B.out.lt (Nat.le_refl _))
  have GEhC : Hid (w.heap.size ≤ x22.heap.size) := Nat.le_trans Bx22.out.size (Nat.le_refl _)
  have Rx23aK : Hid (Blk x23 w.heap.size 39 [.slice a0 n0 c0, .slice a1 n1 c1, .int .i64 N]) := Rx22aK.out.later bx23
  clear Rx22aK
  have Rx23wH : Hid (IRow x23 ghw chw rH) := Rx22wH.out.later bx23
  clear Rx22wH
  have Rx23wB : Hid (Row x23 gbw cbw rB) := Rx22wB.out.later bx23
  clear Rx22wB
  have Rx23wK : Hid (Blk x23 x5.heap.size 27 [.slice (some ⟨ghw, 0, none⟩) mhw chw, .slice (some ⟨gbw, 0, none⟩) mbw cbw, .int .i64 rN]) := Rx22wK.out.later bx23
  clear Rx22wK
  have Rx23xK : Hid (Blk x23 x7.heap.size 27 [.slice (some ⟨ghx, 0, none⟩) n0 n0, .slice (some ⟨gbx, 0, none⟩) n1 n1, .int .i64 N]) := Rx22xK.out.later bx23
  clear Rx22xK
  have Rx23gK : Hid (Blk x23 x10.heap.size 27 [.slice (some ⟨ghg, 0, none⟩) mhg chg, .slice (some ⟨gbg, 0, none⟩) mbg cbg, .int .i64 rN]) := Rx22gK.out.later bx23
  clear Rx22gK
  have Rx23xH : Hid (IRow x23 ghx n0 (imarks 1 n0)) := Rx22xH.out.later bx23
  clear Rx22xH
  have Rx23xB : Hid (Row x23 gbx n1 (marks (1 + n0) n1)) := Rx22xB.out.later bx23
  clear Rx22xB
  have Rx23xC : Hid (Row x23 x8.heap.size n2 (marks (1 + (n0 : Int) + (n1 : Int)) n2)) := Rx22xC.out.later bx23
  clear Rx22xC
  have Rx23gH : Hid (IRow x23 ghg chg (imarks 1 mhg)) := Rx22gH.out.later bx23
  clear Rx22gH
  have Rx23gB : Hid (Row x23 gbg cbg (marks (1 + mhg) mbg)) := Rx22gB.out.later bx23
  clear Rx22gB
  have Rx23hH : Hid (IRow x23 ghh n0 lh) := Nx22H.out.later bx23
  clear Nx22H
  have Rx23hB : Hid (Row x23 gbh n1 lb) := Nx22B.out.later bx23
  clear Nx22B
  have Bx23 : Hid (Below w.heap.size w x23) := Bx22.out.trans (bx23.mono Bx22.out.size)
  clear Bx22
  clear bx23
  have bxaK0 := Rx23aK.out.cell 0 rfl
  have bxaK1 := Rx23aK.out.cell 1 rfl
  have bxaK2 := Rx23aK.out.cell 2 rfl
  have bxwK0 := Rx23wK.out.cell 0 rfl
  have bxwK1 := Rx23wK.out.cell 1 rfl
  have bxwK2 := Rx23wK.out.cell 2 rfl
  have bxxK0 := Rx23xK.out.cell 0 rfl
  have bxxK1 := Rx23xK.out.cell 1 rfl
  have bxxK2 := Rx23xK.out.cell 2 rfl
  have bxgK0 := Rx23gK.out.cell 0 rfl
  have bxgK1 := Rx23gK.out.cell 1 rfl
  have bxgK2 := Rx23gK.out.cell 2 rfl
  go_wp2_with fail
  clear bxaK0 bxaK1 bxaK2 bxwK0 bxwK1 bxwK2 bxxK0 bxxK1 bxxK2 bxgK0 bxgK1 bxgK2
  refine (implHashAdd _ n0 n0 _ n1 n1 N lh lb _ n2 n2 lc _ (HT.out.later Bx23.out) HL0.out HL1.out Rx23hH.out.rd Rx23hB.out.rd (by intro e; cases e) HBy.out (by omega) (by omega) HL2.out Nx23.out.rd (by intro e; cases e) HBc.out (by omega)).mono ?_
  rw [HOW.out, HOB.out, HON.out]
  rintro e x24 ⟨ghk, mhk, chk, gbk, mbk, cbk, rfl, ehx24, ebx24, px24, qx24, nex24, rhx24, rbx24, bx24⟩
  have Ehk : Hid (mhk = rH.length) := ehx24
  have Ebk : Hid (mbk = rB.length) := ebx24
  clear ehx24 ebx24
  have lhk : mhk ≤ 1048576 := by rw [Ehk.out]; exact HPH.out
  have lbk : mbk ≤ 1048576 := by rw [Ebk.out]; exact HPB.out
  have Nx24H : Hid (IRow x24 ghk chk rH) := rhx24
  have Nx24B : Hid (Row x24 gbk cbk rB) := rbx24
  have NEkHkB : Hid (ghk ≠ gbk) := nex24
  have NEaKkH : Hid (w.heap.size ≠ ghk) := Nat.ne_of_lt (Nat.lt_of_lt_of_le Rx23aK.out.lt px24)
  have NEwHkH : Hid (ghw ≠ ghk) := Nat.ne_of_lt (Nat.lt_of_lt_of_le Rx23wH.out.lt px24)
  have NEwBkH : Hid (gbw ≠ ghk) := Nat.ne_of_lt (Nat.lt_of_lt_of_le Rx23wB.out.lt px24)
  have NEwKkH : Hid (x5.heap.size ≠ ghk) := Nat.ne_of_lt (Nat.lt_of_lt_of_le Rx23wK.out.lt px24)
  have NExKkH : Hid (x7.heap.size ≠ ghk) := Nat.ne_of_lt (Nat.lt_of_lt_of_le Rx23xK.out.lt px24)
  have NEgKkH : Hid (x10.heap.size ≠ ghk) := Nat.ne_of_lt (Nat.lt_of_lt_of_le Rx23gK.out.lt px24)
  have NExHkH : Hid (ghx ≠ ghk) := Nat.ne_of_lt (Nat.lt_of_lt_of_le Rx23xH.out.lt px24)
  have NExBkH : Hid (gbx ≠ ghk) := Nat.ne_of_lt (Nat.lt_of_lt_of_le Rx23xB.out.lt px24)
  have NExCkH : Hid (x8.heap.size ≠ ghk) := Nat.ne_of_lt (Nat.lt_of_lt_of_le Rx23xC.out.lt px24)
  have NEgHkH : Hid (ghg ≠ ghk) := Nat.ne_of_lt (Nat.lt_of_lt_of_le Rx23gH.out.lt px24)
  have NEgBkH : Hid (gbg ≠ ghk) := Nat.ne_of_lt (Nat.lt_of_lt_of_le Rx23gB.out.lt px24)
  have NEhHkH : Hid (ghh ≠ ghk) := Nat.ne_of_lt (Nat.lt_of_lt_of_le Rx23hH.out.lt px24)
  have NEhBkH : Hid (gbh ≠ ghk) := Nat.ne_of_lt (Nat.lt_of_lt_of_le Rx23hB.out.lt px24)
  have NEhCkH : Hid (x22.heap.size ≠ ghk) := Nat.ne_of_lt (Nat.lt_of_lt_of_le Nx23.out.lt px24)
  have GEkH : Hid (w.heap.size ≤ ghk) := Nat.le_trans Bx23.out.size px24
  have NEaKkB : Hid (w.heap.size ≠ gbk) := Nat.ne_of_lt (Nat.lt_of_lt_of_le Rx23aK.out.lt qx24)
  have NEwHkB : Hid (ghw ≠ gbk) := Nat.ne_of_lt (Nat.lt_of_lt_of_le Rx23wH.out.lt qx24)
  have NEwBkB : Hid (gbw ≠ gbk) := Nat.ne_of_lt (Nat.lt_of_lt_of_le Rx23wB.out.lt qx24)
  have NEwKkB : Hid (x5.heap.size ≠ gbk) := Nat.ne_of_lt (Nat.lt_of_lt_of_le Rx23wK.out.lt qx24)
  have NExKkB : Hid (x7.heap.size ≠ gbk) := Nat.ne_of_lt (Nat.lt_of_lt_of_le Rx23xK.out.lt qx24)
  have NEgKkB : Hid (x10.heap.size ≠ gbk) := Nat.ne_of_lt (Nat.lt_of_lt_of_le Rx23gK.out.lt qx24)
  have NExHkB : Hid (ghx ≠ gbk) := Nat.ne_of_lt (Nat.lt_of_lt_of_le Rx23xH.out.lt qx24)
  have NExBkB : Hid (gbx ≠ gbk) := Nat.ne_of_lt (Nat.lt_of_lt_of_le Rx23xB.out.lt qx24)
  have NExCkB : Hid (x8.heap.size ≠ gbk) := Nat.ne_of_lt (Nat.lt_of_lt_of_le Rx23xC.out.lt qx24)
  have NEgHkB : Hid (ghg ≠ gbk) := Nat.ne_of_lt (Nat.lt_of_lt_of_le Rx23gH.out.lt qx24)
  have NEgBkB : Hid (gbg ≠ gbk) := Nat.ne_of_lt (Nat.lt_of_lt_of_le Rx23gB.out.lt qx24)
  have NEhHkB : Hid (ghh ≠ gbk) := Nat.ne_of_lt (Nat.lt_of_lt_of_le Rx23hH.out.lt qx24)
  have NEhBkB : Hid (gbh ≠ gbk) := Nat.ne_of_lt (Nat.lt_of_lt_of_le Rx23hB.out.lt qx24)
  have NEhCkB : Hid (x22.heap.size ≠ gbk) := Nat.ne_of_lt (Nat.lt_of_lt_of_le Nx23.out.lt qx24)
  have GEkB : Hid (w.heap.size ≤ gbk) := Nat.le_trans Bx23.out.size qx24
  clear rhx24 rbx24 px24 qx24 nex24
  have Rx24aK : Hid (Blk x24 w.heap.size 39 [.slice a0 n0 c0, .slice a1 n1 c1, .int .i64 N]) := Rx23aK.out.later bx24
  clear Rx23aK
  have Rx24wH : Hid (IRow x24 ghw chw rH) := Rx23wH.out.later bx24
  clear Rx23wH
  have Rx24wB : Hid (Row x24 gbw cbw rB) := Rx23wB.out.later bx24
  clear Rx23wB
  have Rx24wK : Hid (Blk x24 x5.heap.size 27 [.slice (some ⟨ghw, 0, none⟩) mhw chw, .slice (some ⟨gbw, 0, none⟩) mbw cbw, .int .i64 rN]) := Rx23wK.out.later bx24
  clear Rx23wK
  have Rx24xK : Hid (Blk x24 x7.heap.size 27 [.slice (some ⟨ghx, 0, none⟩) n0 n0, .slice (some ⟨gbx, 0, none⟩) n1 n1, .int .i64 N]) := Rx23xK.out.later bx24
  clear Rx23xK
  have Rx24gK : Hid (Blk x24 x10.heap.size 27 [.slice (some ⟨ghg, 0, none⟩) mhg chg, .slice (some ⟨gbg, 0, none⟩) mbg cbg, .int .i64 rN]) := Rx23gK.out.later bx24
  clear Rx23gK
  have Rx24xH : Hid (IRow x24 ghx n0 (imarks 1 n0)) := Rx23xH.out.later bx24
  clear Rx23xH
  have Rx24xB : Hid (Row x24 gbx n1 (marks (1 + n0) n1)) := Rx23xB.out.later bx24
  clear Rx23xB
  have Rx24xC : Hid (Row x24 x8.heap.size n2 (marks (1 + (n0 : Int) + (n1 : Int)) n2)) := Rx23xC.out.later bx24
  clear Rx23xC
  have Rx24gH : Hid (IRow x24 ghg chg (imarks 1 mhg)) := Rx23gH.out.later bx24
  clear Rx23gH
  have Rx24gB : Hid (Row x24 gbg cbg (marks (1 + mhg) mbg)) := Rx23gB.out.later bx24
  clear Rx23gB
  have Rx24hH : Hid (IRow x24 ghh n0 lh) := Rx23hH.out.later bx24
  clear Rx23hH
  have Rx24hB : Hid (Row x24 gbh n1 lb) := Rx23hB.out.later bx24
  clear Rx23hB
  have Rx24hC : Hid (Row x24 x22.heap.size n2 lc) := Nx23.out.later bx24
  clear Nx23
  have Bx24 : Hid (Below w.heap.size w x24) := Bx23.out.trans (bx24.mono Bx23.out.size)
  clear Bx23
  clear bx24
  unfold hashV
  have bxaK0 := Rx24aK.out.cell 0 rfl
  have bxaK1 := Rx24aK.out.cell 1 rfl
  have bxaK2 := Rx24aK.out.cell 2 rfl
  have bxwK0 := Rx24wK.out.cell 0 rfl
  have bxwK1 := Rx24wK.out.cell 1 rfl
  have bxwK2 := Rx24wK.out.cell 2 rfl
  have bxxK0 := Rx24xK.out.cell 0 rfl
  have bxxK1 := Rx24xK.out.cell 1 rfl
  have bxxK2 := Rx24xK.out.cell 2 rfl
  have bxgK0 := Rx24gK.out.cell 0 rfl
  have bxgK1 := Rx24gK.out.cell 1 rfl
  have bxgK2 := Rx24gK.out.cell 2 rfl
  have axaK0 := (Rx24aK.out.alloc (.cells #[.slice (some ⟨ghk, 0, none⟩) mhk chk, .slice (some ⟨gbk, 0, none⟩) mbk cbk, .int .i64 rN] 27)).cell 0 rfl
  have axaK1 := (Rx24aK.out.alloc (.cells #[.slice (some ⟨ghk, 0, none⟩) mhk chk, .slice (some ⟨gbk, 0, none⟩) mbk cbk, .int .i64 rN] 27)).cell 1 rfl
  have axaK2 := (Rx24aK.out.alloc (.cells #[.slice (some ⟨ghk, 0, none⟩) mhk chk, .slice (some ⟨gbk, 0, none⟩) mbk cbk, .int .i64 rN] 27)).cell 2 rfl
  have axwK0 := (Rx24wK.out.alloc (.cells #[.slice (some ⟨ghk, 0, none⟩) mhk chk, .slice (some ⟨gbk, 0, none⟩) mbk cbk, .int .i64 rN] 27)).cell 0 rfl
  have axwK1 := (Rx24wK.out.alloc (.cells #[.slice (some ⟨ghk, 0, none⟩) mhk chk, .slice (some ⟨gbk, 0, none⟩) mbk cbk, .int .i64 rN] 27)).cell 1 rfl
  have axwK2 := (Rx24wK.out.alloc (.cells #[.slice (some ⟨ghk, 0, none⟩) mhk chk, .slice (some ⟨gbk, 0, none⟩) mbk cbk, .int .i64 rN] 27)).cell 2 rfl
  have axxK0 := (Rx24xK.out.alloc (.cells #[.slice (some ⟨ghk, 0, none⟩) mhk chk, .slice (some ⟨gbk, 0, none⟩) mbk cbk, .int .i64 rN] 27)).cell 0 rfl
  have axxK1 := (Rx24xK.out.alloc (.cells #[.slice (some ⟨ghk, 0, none⟩) mhk chk, .slice (some ⟨gbk, 0, none⟩) mbk cbk, .int .i64 rN] 27)).cell 1 rfl
  have axxK2 := (Rx24xK.out.alloc (.cells #[.slice (some ⟨ghk, 0, none⟩) mhk chk, .slice (some ⟨gbk, 0, none⟩) mbk cbk, .int .i64 rN] 27)).cell 2 rfl
  have axgK0 := (Rx24gK.out.alloc (.cells #[.slice (some ⟨ghk, 0, none⟩) mhk chk, .slice (some ⟨gbk, 0, none⟩) mbk cbk, .int .i64 rN] 27)).cell 0 rfl
  have axgK1 := (Rx24gK.out.alloc (.cells #[.slice (some ⟨ghk, 0, none⟩) mhk chk, .slice (some ⟨gbk, 0, none⟩) mbk cbk, .int .i64 rN] 27)).cell 1 rfl
  have axgK2 := (Rx24gK.out.alloc (.cells #[.slice (some ⟨ghk, 0, none⟩) mhk chk, .slice (some ⟨gbk, 0, none⟩) mbk cbk, .int .i64 rN] 27)).cell 2 rfl
  obtain ⟨x25, hx25⟩ : ∃ x25, x24.alloc (.cells #[.slice (some ⟨ghk, 0, none⟩) mhk chk, .slice (some ⟨gbk, 0, none⟩) mbk cbk, .int .i64 rN] 27) = x25 := ⟨_, rfl⟩
  have HWx25 : Hid (x24.alloc (.cells #[.slice (some ⟨ghk, 0, none⟩) mhk chk, .slice (some ⟨gbk, 0, none⟩) mbk cbk, .int .i64 rN] 27) = x25) := hx25
  have Nx25 : Hid (Blk x25 x24.heap.size 27 [.slice (some ⟨ghk, 0, none⟩) mhk chk, .slice (some ⟨gbk, 0, none⟩) mbk cbk, .int .i64 rN]) := by rw [← hx25]; exact Blk.new x24 27 [.slice (some ⟨ghk, 0, none⟩) mhk chk, .slice (some ⟨gbk, 0, none⟩) mbk cbk, .int .i64 rN]
  have bx25 : Below x24.heap.size x24 x25 := by rw [← hx25]; exact (Below.refl _ _).alloc (Nat.le_refl _) _
  have bx25 : Hid (Below x24.heap.size x24 x25) := bx25
  clear hx25
  go_wp2_with fail
  rw [HWx25.out]
  clear bxaK0 bxaK1 bxaK2 bxwK0 bxwK1 bxwK2 bxxK0 bxxK1 bxxK2 bxgK0 bxgK1 bxgK2 axaK0 axaK1 axaK2 axwK0 axwK1 axwK2 axxK0 axxK1 axxK2 axgK0 axgK1 axgK2
  have NEaKkK : Hid (w.heap.size ≠ x24.heap.size) := Nat.ne_of_lt (Nat.lt_of_lt_of_le Rx24aK.out.lt (Nat.le_refl _))
  have NEwHkK : Hid (ghw ≠ x24.heap.size) := Nat.ne_of_lt (Nat.lt_of_lt_of_le Rx24wH.out.lt (Nat.le_refl _))
  have NEwBkK : Hid (gbw ≠ x24.heap.size) := Nat.ne_of_lt (Nat.lt_of_lt_of_le Rx24wB.out.lt (Nat.le_refl _))
  have NEwKkK : Hid (x5.heap.size ≠ x24.heap.size) := Nat.ne_of_lt (Nat.lt_of_lt_of_le Rx24wK.out.lt (Nat.le_refl _))
  have NExKkK : Hid (x7.heap.size ≠ x24.heap.size) := Nat.ne_of_lt (Nat.lt_of_lt_of_le Rx24xK.out.lt (Nat.le_refl _))
  have NEgKkK : Hid (x10.heap.size ≠ x24.heap.size) := Nat.ne_of_lt (Nat.lt_of_lt_of_le Rx24gK.out.lt (Nat.le_refl _))
  have NExHkK : Hid (ghx ≠ x24.heap.size) := Nat.ne_of_lt (Nat.lt_of_lt_of_le Rx24xH.out.lt (Nat.le_refl _))
  have NExBkK : Hid (gbx ≠ x24.heap.size) := Nat.ne_of_lt (Nat.lt_of_lt_of_le Rx24xB.out.lt (Nat.le_refl _))
  have NExCkK : Hid (x8.heap.size ≠ x24.heap.size) := Nat.ne_of_lt (Nat.lt_of_lt_of_le Rx24xC.out.lt (Nat.le_refl _))
  have NEgHkK : Hid (ghg ≠ x24.heap.size) := Nat.ne_of_lt (Nat.lt_of_lt_of_le Rx24gH.out.lt (Nat.le_refl _))
  have NEgBkK : Hid (gbg ≠ x24.heap.size) := Nat.ne_of_lt (Nat.lt_of_lt_of_le Rx24gB.out.lt (Nat.le_refl _))
  have NEhHkK : Hid (ghh ≠ x24.heap.size) := Nat.ne_of_lt (Nat.lt_of_lt_of_le Rx24hH.out.lt (Nat.le_refl _))
  have NEhBkK : Hid (gbh ≠ x24.heap.size) := Nat.ne_of_lt (Nat.lt_of_lt_of_le Rx24hB.out.lt (Nat.le_refl _))
  have NEhCkK : Hid (x22.heap.size ≠ x24.heap.size) := Nat.ne_of_lt (Nat.lt_of_lt_of_le Rx24hC.out.lt (Nat.le_refl _))
  have NEkHkK : Hid (ghk ≠ x24.heap.size) := Nat.ne_of_lt (Nat.lt_of_lt_of_le Nx24H.out.lt (Nat.le_refl _))
  have NEkBkK : Hid (gbk ≠ x24.heap.size) := Nat.ne_of_lt (Nat.lt_of_lt_of_le Nx24B.out.lt (Nat.le_refl _))
  have GEkK : Hid (w.heap.size ≤ x24.heap.size) := Nat.le_trans Bx24.out.size (Nat.le_refl _)
  have bx25 := bx25.out
  have Rx25aK : Hid (Blk x25 w.heap.size 39 [.slice a0 n0 c0, .slice a1 n1 c1, .int .i64 N]) := Rx24aK.out.later bx25
  clear Rx24aK
  have Rx25wH : Hid (IRow x25 ghw chw rH) := Rx24wH.out.later bx25
  clear Rx24wH
  have Rx25wB : Hid (Row x25 gbw cbw rB) := Rx24wB.out.later bx25
  clear Rx24wB
  have Rx25wK : Hid (Blk x25 x5.heap.size 27 [.slice (some ⟨ghw, 0, none⟩) mhw chw, .slice (some ⟨gbw, 0, none⟩) mbw cbw, .int .i64 rN]) := Rx24wK.out.later bx25
  clear Rx24wK
  have Rx25xK : Hid (Blk x25 x7.heap.size 27 [.slice (some ⟨ghx, 0, none⟩) n0 n0, .slice (some ⟨gbx, 0, none⟩) n1 n1, .int .i64 N]) := Rx24xK.out.later bx25
  clear Rx24xK
  have Rx25gK : Hid (Blk x25 x10.heap.size 27 [.slice (some ⟨ghg, 0, none⟩) mhg chg, .slice (some ⟨gbg, 0, none⟩) mbg cbg, .int .i64 rN]) := Rx24gK.out.later bx25
  clear Rx24gK
  have Rx25xH : Hid (IRow x25 ghx n0 (imarks 1 n0)) := Rx24xH.out.later bx25
  clear Rx24xH
  have Rx25xB : Hid (Row x25 gbx n1 (marks (1 + n0) n1)) := Rx24xB.out.later bx25
  clear Rx24xB
  have Rx25xC : Hid (Row x25 x8.heap.size n2 (marks (1 + (n0 : Int) + (n1 : Int)) n2)) := Rx24xC.out.later bx25
  clear Rx24xC
  have Rx25gH : Hid (IRow x25 ghg chg (imarks 1 mhg)) := Rx24gH.out.later bx25
  clear Rx24gH
  have Rx25gB : Hid (Row x25 gbg cbg (marks (1 + mhg) mbg)) := Rx24gB.out.later bx25
  clear Rx24gB
  have Rx25hH : Hid (IRow x25 ghh n0 lh) := Rx24hH.out.later bx25
  clear Rx24hH
  have Rx25hB : Hid (Row x25 gbh n1 lb) := Rx24hB.out.later bx25
  clear Rx24hB
  have Rx25hC : Hid (Row x25 x22.heap.size n2 lc) := Rx24hC.out.later bx25
  clear Rx24hC
  have Rx25kH : Hid (IRow x25 ghk chk rH) := Nx24H.out.later bx25
  clear Nx24H
  have Rx25kB : Hid (Row x25 gbk cbk rB) := Nx24B.out.later bx25
  clear Nx24B
  have Bx25 : Hid (Below w.heap.size w x25) := Bx24.out.trans (bx25.mono Bx24.out.size)
  clear Bx24
  clear bx25
  refine (eqHash _ mhk chk _ mbk cbk _ mhw chw _ mbw cbw rN rH rB _ Ehk.out Ebk.out Ehw.out Ebw.out Rx25kH.out.rd Rx25kB.out.rd Rx25wH.out.rd Rx25wB.out.rd (by have := HPH.out; omega) (by have := HPB.out; omega)).mono ?_
  rintro e x26 ⟨rfl, bx26⟩
  have Rx26aK : Hid (Blk x26 w.heap.size 39 [.slice a0 n0 c0, .slice a1 n1 c1, .int .i64 N]) := Rx25aK.out.later bx26
  clear Rx25aK
  have Rx26wH : Hid (IRow x26 ghw chw rH) := Rx25wH.out.later bx26
  clear Rx25wH
  have Rx26wB : Hid (Row x26 gbw cbw rB) := Rx25wB.out.later bx26
  clear Rx25wB
  have Rx26wK : Hid (Blk x26 x5.heap.size 27 [.slice (some ⟨ghw, 0, none⟩) mhw chw, .slice (some ⟨gbw, 0, none⟩) mbw cbw, .int .i64 rN]) := Rx25wK.out.later bx26
  clear Rx25wK
  have Rx26xK : Hid (Blk x26 x7.heap.size 27 [.slice (some ⟨ghx, 0, none⟩) n0 n0, .slice (some ⟨gbx, 0, none⟩) n1 n1, .int .i64 N]) := Rx25xK.out.later bx26
  clear Rx25xK
  have Rx26gK : Hid (Blk x26 x10.heap.size 27 [.slice (some ⟨ghg, 0, none⟩) mhg chg, .slice (some ⟨gbg, 0, none⟩) mbg cbg, .int .i64 rN]) := Rx25gK.out.later bx26
  clear Rx25gK
  have Rx26xH : Hid (IRow x26 ghx n0 (imarks 1 n0)) := Rx25xH.out.later bx26
  clear Rx25xH
  have Rx26xB : Hid (Row x26 gbx n1 (marks (1 + n0) n1)) := Rx25xB.out.later bx26
  clear Rx25xB
  have Rx26xC : Hid (Row x26 x8.heap.size n2 (marks (1 + (n0 : Int) + (n1 : Int)) n2)) := Rx25xC.out.later bx26
  clear Rx25xC
  have Rx26gH : Hid (IRow x26 ghg chg (imarks 1 mhg)) := Rx25gH.out.later bx26
  clear Rx25gH
  have Rx26gB : Hid (Row x26 gbg cbg (marks (1 + mhg) mbg)) := Rx25gB.out.later bx26
  clear Rx25gB
  have Rx26hH : Hid (IRow x26 ghh n0 lh) := Rx25hH.out.later bx26
  clear Rx25hH
  have Rx26hB : Hid (Row x26 gbh n1 lb) := Rx25hB.out.later bx26
  clear Rx25hB
  have Rx26hC : Hid (Row x26 x22.heap.size n2 lc) := Rx25hC.out.later bx26
  clear Rx25hC
  have Rx26kH : Hid (IRow x26 ghk chk rH) := Rx25kH.out.later bx26
  clear Rx25kH
  have Rx26kB : Hid (Row x26 gbk cbk rB) := Rx25kB.out.later bx26
  clear Rx25kB
  have Rx26kK : Hid (Blk x26 x24.heap.size 27 [.slice (some ⟨ghk, 0, none⟩) mhk chk, .slice (some ⟨gbk, 0, none⟩) mbk cbk, .int .i64 rN]) := Nx25.out.later bx26
  clear Nx25
  have Bx26 : Hid (Below w.heap.size w x26) := Bx25.out.trans (bx26.mono Bx25.out.size)
  clear Bx25
  clear bx26
  have bxaK0 := Rx26aK.out.cell 0 rfl
  have bxaK1 := Rx26aK.out.cell 1 rfl
  have bxaK2 := Rx26aK.out.cell 2 rfl
  have bxwK0 := Rx26wK.out.cell 0 rfl
  have bxwK1 := Rx26wK.out.cell 1 rfl
  have bxwK2 := Rx26wK.out.cell 2 rfl
  have bxxK0 := Rx26xK.out.cell 0 rfl
  have bxxK1 := Rx26xK.out.cell 1 rfl
  have bxxK2 := Rx26xK.out.cell 2 rfl
  have bxgK0 := Rx26gK.out.cell 0 rfl
  have bxgK1 := Rx26gK.out.cell 1 rfl
  have bxgK2 := Rx26gK.out.cell 2 rfl
  have bxkK0 := Rx26kK.out.cell 0 rfl
  have bxkK1 := Rx26kK.out.cell 1 rfl
  have bxkK2 := Rx26kK.out.cell 2 rfl
  go_wp2_with fail
  clear bxaK0 bxaK1 bxaK2 bxwK0 bxwK1 bxwK2 bxxK0 bxxK1 bxxK2 bxgK0 bxgK1 bxgK2 bxkK0 bxkK1 bxkK2
  refine (heldHash _ mhg chg _ mbg cbg rN 1 _ Rx26gH.out.rd Rx26gB.out.rd (by omega) (by omega) (by omega) (by omega)).mono ?_
  rintro e x27 ⟨rfl, bx27⟩
  have Rx27aK : Hid (Blk x27 w.heap.size 39 [.slice a0 n0 c0, .slice a1 n1 c1, .int .i64 N]) := Rx26aK.out.later bx27
  clear Rx26aK
  have Rx27wH : Hid (IRow x27 ghw chw rH) := Rx26wH.out.later bx27
  clear Rx26wH
  have Rx27wB : Hid (Row x27 gbw cbw rB) := Rx26wB.out.later bx27
  clear Rx26wB
  have Rx27wK : Hid (Blk x27 x5.heap.size 27 [.slice (some ⟨ghw, 0, none⟩) mhw chw, .slice (some ⟨gbw, 0, none⟩) mbw cbw, .int .i64 rN]) := Rx26wK.out.later bx27
  clear Rx26wK
  have Rx27xK : Hid (Blk x27 x7.heap.size 27 [.slice (some ⟨ghx, 0, none⟩) n0 n0, .slice (some ⟨gbx, 0, none⟩) n1 n1, .int .i64 N]) := Rx26xK.out.later bx27
  clear Rx26xK
  have Rx27gK : Hid (Blk x27 x10.heap.size 27 [.slice (some ⟨ghg, 0, none⟩) mhg chg, .slice (some ⟨gbg, 0, none⟩) mbg cbg, .int .i64 rN]) := Rx26gK.out.later bx27
  clear Rx26gK
  have Rx27xH : Hid (IRow x27 ghx n0 (imarks 1 n0)) := Rx26xH.out.later bx27
  clear Rx26xH
  have Rx27xB : Hid (Row x27 gbx n1 (marks (1 + n0) n1)) := Rx26xB.out.later bx27
  clear Rx26xB
  have Rx27xC : Hid (Row x27 x8.heap.size n2 (marks (1 + (n0 : Int) + (n1 : Int)) n2)) := Rx26xC.out.later bx27
  clear Rx26xC
  have Rx27gH : Hid (IRow x27 ghg chg (imarks 1 mhg)) := Rx26gH.out.later bx27
  clear Rx26gH
  have Rx27gB : Hid (Row x27 gbg cbg (marks (1 + mhg) mbg)) := Rx26gB.out.later bx27
  clear Rx26gB
  have Rx27hH : Hid (IRow x27 ghh n0 lh) := Rx26hH.out.later bx27
  clear Rx26hH
  have Rx27hB : Hid (Row x27 gbh n1 lb) := Rx26hB.out.later bx27
  clear Rx26hB
  have Rx27hC : Hid (Row x27 x22.heap.size n2 lc) := Rx26hC.out.later bx27
  clear Rx26hC
  have Rx27kH : Hid (IRow x27 ghk chk rH) := Rx26kH.out.later bx27
  clear Rx26kH
  have Rx27kB : Hid (Row x27 gbk cbk rB) := Rx26kB.out.later bx27
  clear Rx26kB
  have Rx27kK : Hid (Blk x27 x24.heap.size 27 [.slice (some ⟨ghk, 0, none⟩) mhk chk, .slice (some ⟨gbk, 0, none⟩) mbk cbk, .int .i64 rN]) := Rx26kK.out.later bx27
  clear Rx26kK
  have Bx27 : Hid (Below w.heap.size w x27) := Bx26.out.trans (bx27.mono Bx26.out.size)
  clear Bx26
  clear bx27
  have bxaK0 := Rx27aK.out.cell 0 rfl
  have bxaK1 := Rx27aK.out.cell 1 rfl
  have bxaK2 := Rx27aK.out.cell 2 rfl
  have bxwK0 := Rx27wK.out.cell 0 rfl
  have bxwK1 := Rx27wK.out.cell 1 rfl
  have bxwK2 := Rx27wK.out.cell 2 rfl
  have bxxK0 := Rx27xK.out.cell 0 rfl
  have bxxK1 := Rx27xK.out.cell 1 rfl
  have bxxK2 := Rx27xK.out.cell 2 rfl
  have bxgK0 := Rx27gK.out.cell 0 rfl
  have bxgK1 := Rx27gK.out.cell 1 rfl
  have bxgK2 := Rx27gK.out.cell 2 rfl
  have bxkK0 := Rx27kK.out.cell 0 rfl
  have bxkK1 := Rx27kK.out.cell 1 rfl
  have bxkK2 := Rx27kK.out.cell 2 rfl
  go_wp2
  go_ret
  exact ⟨rfl, Bx27.out⟩

theorem isRow_len {k : IntKind} {w : World} {a : Option Addr} {len cap : Nat} {zs : List Int} (h : IsRow k w a len cap zs) : len ≤ maxLen := by
  rcases h with ⟨_, rfl, _, _⟩ | ⟨_, _, h1, h2, _⟩
  · exact Nat.zero_le _
  · exact Nat.le_trans h1 h2

theorem walk (a0 : Option Addr) (n0 c0 : Nat) (z0 : List Int) (a1 : Option Addr) (n1 c1 : Nat) (z1 : List Int) (N : Int) (a2 : Option Addr) (n2 c2 : Nat) (z2 : List Int) (w : World) (hT : Tab w) (h0 : IsRow .i64 w a0 n0 c0 z0) (h1 : IsRow .u8 w a1 n1 c1 z1) (h2 : IsRow .u8 w a2 n2 c2 z2) :
    Calls Tryd.prog 6 #[hashV a0 n0 c0 a1 n1 c1 N, .slice a2 n2 c2] w fun e w' => e = .returned (.bool true) ∧ Below w.heap.size w w' := by
  by_cases hn2 : n2 ≤ 1048576
  · by_cases hs : n0 + n1 ≤ 1048576
    · obtain ⟨lh, hl0, hr0, _, _⟩ := readI h0
      obtain ⟨lb, hl1, hr1, na1, hb1⟩ := h1.read
      obtain ⟨lc, hl2, hr2, na2, hb2⟩ := h2.read
      exact small a0 n0 c0 a1 n1 c1 N lh lb a2 n2 c2 lc w hT hl0 hl1 hr0 hr1 hs hb1 hl2 hr2 hb2 hn2
    · have m0 := isRow_len h0
      have m1 := isRow_len h1
      have A0 : Hid (Below w.heap.size w (w.alloc (.cells #[.slice a0 n0 c0, .slice a1 n1 c1, .int .i64 N] 39))) := (Below.refl _ _).alloc (Nat.le_refl _) _
      clear h0 h1 h2
      unfold hashV
      go_enter Tryd.func6, Tryd.ntmps6
      go_wp2_with fail
      refine (szBig a0 n0 c0 a1 n1 c1 N _ (by omega) m0 m1).mono ?_
      rintro e w1 ⟨rfl, b1⟩
      have B1 : Hid (Below w.heap.size w w1) := A0.out.trans (b1.mono A0.out.size)
      clear b1
      go_wp2
      go_ret
      exact ⟨rfl, B1.out⟩
  · have hn2' : (n2 : Int) > 1048576 := by omega
    have A0 : Hid (Below w.heap.size w (w.alloc (.cells #[.slice a0 n0 c0, .slice a1 n1 c1, .int .i64 N] 39))) := (Below.refl _ _).alloc (Nat.le_refl _) _
    clear h0 h1 h2
    unfold hashV
    go_enter Tryd.func6, Tryd.ntmps6
    go_wp2
    go_ret
    exact ⟨rfl, A0.out⟩
end Go.Proofs.YtfoilfbpbjfkcaaDoor.LawHashAdd
