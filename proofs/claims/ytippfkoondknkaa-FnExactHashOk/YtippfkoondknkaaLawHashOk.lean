/-
  laws.FnExactHashOk answers true at every hash; nothing that was there is written into.
-/
import Derived.Test.YtippfkoondknkaaHashS
import Derived.Deep.RegionHeld3
namespace Go.Proofs.Ytippfkoondknkaa.LawHashOk
open Go.RowKit Go.Proofs.Ytippfkoondknkaa.Mem Go.Proofs.Ytippfkoondknkaa.MemI Go.Proofs.Ytippfkoondknkaa.Blk Go.Proofs.Ytippfkoondknkaa.App Go.Proofs.Ytippfkoondknkaa.ShaP Go.Proofs.Ytippfkoondknkaa.Hashs Go.Proofs.Ytippfkoondknkaa.HashH Go.Proofs.Ytippfkoondknkaa.HashO Go.Proofs.Ytippfkoondknkaa.HashS Go.Proofs.Ytippfkoondknkaa.WordsOf

set_option maxHeartbeats 1600000 in
theorem small (a0 : Option Addr) (n0 c0 : Nat) (a1 : Option Addr) (n1 c1 : Nat) (N : Int) (lh lb : List Int) (w : World) (hl0 : n0 = lh.length) (hl1 : n1 = lb.length) (hr0 : IRd w a0 lh) (hr1 : Rd w a1 lb) (hsz : n0 + n1 ≤ 1048576) :
    Calls Try.prog 8 #[hashV a0 n0 c0 a1 n1 c1 N] w fun e w' => e = .returned (.bool true) ∧ Below w.heap.size w w' := by
  have HL0 : Hid (n0 = lh.length) := hl0
  have HL1 : Hid (n1 = lb.length) := hl1
  have HR0 : Hid (IRd w a0 lh) := hr0
  have HR1 : Hid (Rd w a1 lb) := hr1
  clear hl0 hl1 hr0 hr1
  unfold hashV
  obtain ⟨ok, hok⟩ : ∃ ok, okH lh n1 N = ok := ⟨_, rfl⟩
  have HO : Hid (okH lh n1 N = ok) := hok
  clear hok
  go_enter Try.func8, Try.ntmps8
  obtain ⟨x1, hx1⟩ : ∃ x1, w.alloc (.cells #[.slice a0 n0 c0, .slice a1 n1 c1, .int .i64 N] 43) = x1 := ⟨_, rfl⟩
  have HWx1 : Hid (w.alloc (.cells #[.slice a0 n0 c0, .slice a1 n1 c1, .int .i64 N] 43) = x1) := hx1
  have Nx1 : Hid (Blk x1 w.heap.size 43 [.slice a0 n0 c0, .slice a1 n1 c1, .int .i64 N]) := by rw [← hx1]; exact Blk.new w 43 [.slice a0 n0 c0, .slice a1 n1 c1, .int .i64 N]
  have bx1 : Below w.heap.size w x1 := by rw [← hx1]; exact (Below.refl _ _).alloc (Nat.le_refl _) _
  have bx1 : Hid (Below w.heap.size w x1) := bx1
  clear hx1
  go_wp2_with fail
  rw [HWx1.out]
  have GEaK : Hid (w.heap.size ≤ w.heap.size) := (Nat.le_refl _)
  have bx1 := bx1.out
  have Bx1 : Hid (Below w.heap.size w x1) := bx1
  clear bx1
  refine (szSmall a0 n0 c0 a1 n1 c1 N _ hsz).mono ?_
  rintro e x2 ⟨rfl, bx2⟩
  have Rx2aK : Hid (Blk x2 w.heap.size 43 [.slice a0 n0 c0, .slice a1 n1 c1, .int .i64 N]) := Nx1.out.later bx2
  clear Nx1
  have Bx2 : Hid (Below w.heap.size w x2) := Bx1.out.trans (bx2.mono Bx1.out.size)
  clear Bx1
  clear bx2
  have bxaK0 := Rx2aK.out.cell 0 rfl
  have bxaK1 := Rx2aK.out.cell 1 rfl
  have bxaK2 := Rx2aK.out.cell 2 rfl
  go_wp2_with fail
  clear bxaK0 bxaK1 bxaK2
  refine (toHash a0 n0 c0 a1 n1 c1 N lh lb _ HL0.out HL1.out (HR0.out.later Bx2.out (Nat.le_refl _)) (HR1.out.later Bx2.out (Nat.le_refl _)) (by omega) (by omega)).mono ?_
  rintro e x3 ⟨ghs, gbs, rfl, px3, qx3, nex3, rhx3, rbx3, bx3⟩
  have Nx3H : Hid (IRow x3 ghs n0 lh) := rhx3
  have Nx3B : Hid (Row x3 gbs n1 lb) := rbx3
  have NEsHsB : Hid (ghs ≠ gbs) := nex3
  have NEaKsH : Hid (w.heap.size ≠ ghs) := Nat.ne_of_lt (Nat.lt_of_lt_of_le Rx2aK.out.lt px3)
  have GEsH : Hid (w.heap.size ≤ ghs) := Nat.le_trans Bx2.out.size px3
  have NEaKsB : Hid (w.heap.size ≠ gbs) := Nat.ne_of_lt (Nat.lt_of_lt_of_le Rx2aK.out.lt qx3)
  have GEsB : Hid (w.heap.size ≤ gbs) := Nat.le_trans Bx2.out.size qx3
  clear rhx3 rbx3 px3 qx3 nex3
  have Rx3aK : Hid (Blk x3 w.heap.size 43 [.slice a0 n0 c0, .slice a1 n1 c1, .int .i64 N]) := Rx2aK.out.later bx3
  clear Rx2aK
  have Bx3 : Hid (Below w.heap.size w x3) := Bx2.out.trans (bx3.mono Bx2.out.size)
  clear Bx2
  clear bx3
  unfold hashV
  have bxaK0 := Rx3aK.out.cell 0 rfl
  have bxaK1 := Rx3aK.out.cell 1 rfl
  have bxaK2 := Rx3aK.out.cell 2 rfl
  go_wp2_with fail
  clear bxaK0 bxaK1 bxaK2
  refine (specHashOk _ n0 n0 _ n1 n1 N lh _ HL0.out Nx3H.out.rd (by omega) (by omega)).mono ?_
  rw [HO.out]
  rintro e x4 ⟨rfl, bx4⟩
  have Rx4aK : Hid (Blk x4 w.heap.size 43 [.slice a0 n0 c0, .slice a1 n1 c1, .int .i64 N]) := Rx3aK.out.later bx4
  clear Rx3aK
  have Rx4sH : Hid (IRow x4 ghs n0 lh) := Nx3H.out.later bx4
  clear Nx3H
  have Rx4sB : Hid (Row x4 gbs n1 lb) := Nx3B.out.later bx4
  clear Nx3B
  have Bx4 : Hid (Below w.heap.size w x4) := Bx3.out.trans (bx4.mono Bx3.out.size)
  clear Bx3
  clear bx4
  clear Rx4sH
  clear Rx4sB
  have bxaK0 := Rx4aK.out.cell 0 rfl
  have bxaK1 := Rx4aK.out.cell 1 rfl
  have bxaK2 := Rx4aK.out.cell 2 rfl
  go_wp2_with fail
  clear bxaK0 bxaK1 bxaK2
  refine (toHash a0 n0 c0 a1 n1 c1 N lh lb _ HL0.out HL1.out (HR0.out.later Bx4.out (Nat.le_refl _)) (HR1.out.later Bx4.out (Nat.le_refl _)) (by omega) (by omega)).mono ?_
  rintro e x5 ⟨ghx, gbx, rfl, px5, qx5, nex5, rhx5, rbx5, bx5⟩
  have Nx5H : Hid (IRow x5 ghx n0 lh) := rhx5
  have Nx5B : Hid (Row x5 gbx n1 lb) := rbx5
  have NExHxB : Hid (ghx ≠ gbx) := nex5
  have NEaKxH : Hid (w.heap.size ≠ ghx) := Nat.ne_of_lt (Nat.lt_of_lt_of_le Rx4aK.out.lt px5)
  have GExH : Hid (w.heap.size ≤ ghx) := Nat.le_trans Bx4.out.size px5
  have NEaKxB : Hid (w.heap.size ≠ gbx) := Nat.ne_of_lt (Nat.lt_of_lt_of_le Rx4aK.out.lt qx5)
  have GExB : Hid (w.heap.size ≤ gbx) := Nat.le_trans Bx4.out.size qx5
  clear rhx5 rbx5 px5 qx5 nex5
  have Rx5aK : Hid (Blk x5 w.heap.size 43 [.slice a0 n0 c0, .slice a1 n1 c1, .int .i64 N]) := Rx4aK.out.later bx5
  clear Rx4aK
  have Bx5 : Hid (Below w.heap.size w x5) := Bx4.out.trans (bx5.mono Bx4.out.size)
  clear Bx4
  clear bx5
  unfold hashV
  have bxaK0 := Rx5aK.out.cell 0 rfl
  have bxaK1 := Rx5aK.out.cell 1 rfl
  have bxaK2 := Rx5aK.out.cell 2 rfl
  have axaK0 := (Rx5aK.out.alloc (.cells #[.slice (some ⟨ghx, 0, none⟩) n0 n0, .slice (some ⟨gbx, 0, none⟩) n1 n1, .int .i64 N] 39)).cell 0 rfl
  have axaK1 := (Rx5aK.out.alloc (.cells #[.slice (some ⟨ghx, 0, none⟩) n0 n0, .slice (some ⟨gbx, 0, none⟩) n1 n1, .int .i64 N] 39)).cell 1 rfl
  have axaK2 := (Rx5aK.out.alloc (.cells #[.slice (some ⟨ghx, 0, none⟩) n0 n0, .slice (some ⟨gbx, 0, none⟩) n1 n1, .int .i64 N] 39)).cell 2 rfl
  obtain ⟨x6, hx6⟩ : ∃ x6, x5.alloc (.cells #[.slice (some ⟨ghx, 0, none⟩) n0 n0, .slice (some ⟨gbx, 0, none⟩) n1 n1, .int .i64 N] 39) = x6 := ⟨_, rfl⟩
  have HWx6 : Hid (x5.alloc (.cells #[.slice (some ⟨ghx, 0, none⟩) n0 n0, .slice (some ⟨gbx, 0, none⟩) n1 n1, .int .i64 N] 39) = x6) := hx6
  have Nx6 : Hid (Blk x6 x5.heap.size 39 [.slice (some ⟨ghx, 0, none⟩) n0 n0, .slice (some ⟨gbx, 0, none⟩) n1 n1, .int .i64 N]) := by rw [← hx6]; exact Blk.new x5 39 [.slice (some ⟨ghx, 0, none⟩) n0 n0, .slice (some ⟨gbx, 0, none⟩) n1 n1, .int .i64 N]
  have bx6 : Below x5.heap.size x5 x6 := by rw [← hx6]; exact (Below.refl _ _).alloc (Nat.le_refl _) _
  have bx6 : Hid (Below x5.heap.size x5 x6) := bx6
  clear hx6
  go_wp2_with fail
  rw [HWx6.out]
  clear bxaK0 bxaK1 bxaK2 axaK0 axaK1 axaK2
  have NEaKxK : Hid (w.heap.size ≠ x5.heap.size) := Nat.ne_of_lt (Nat.lt_of_lt_of_le Rx5aK.out.lt (Nat.le_refl _))
  have NExHxK : Hid (ghx ≠ x5.heap.size) := Nat.ne_of_lt (Nat.lt_of_lt_of_le Nx5H.out.lt (Nat.le_refl _))
  have NExBxK : Hid (gbx ≠ x5.heap.size) := Nat.ne_of_lt (Nat.lt_of_lt_of_le Nx5B.out.lt (Nat.le_refl _))
  have GExK : Hid (w.heap.size ≤ x5.heap.size) := Nat.le_trans Bx5.out.size (Nat.le_refl _)
  have bx6 := bx6.out
  have Rx6aK : Hid (Blk x6 w.heap.size 43 [.slice a0 n0 c0, .slice a1 n1 c1, .int .i64 N]) := Rx5aK.out.later bx6
  clear Rx5aK
  have Rx6xH : Hid (IRow x6 ghx n0 lh) := Nx5H.out.later bx6
  clear Nx5H
  have Rx6xB : Hid (Row x6 gbx n1 lb) := Nx5B.out.later bx6
  clear Nx5B
  have Bx6 : Hid (Below w.heap.size w x6) := Bx5.out.trans (bx6.mono Bx5.out.size)
  clear Bx5
  clear bx6
  refine (implHashOk _ n0 n0 _ n1 n1 N lh _ HL0.out Rx6xH.out.rd (by omega) (by omega)).mono ?_
  rw [HO.out]
  rintro e x7 ⟨rfl, bx7⟩
  have Rx7aK : Hid (Blk x7 w.heap.size 43 [.slice a0 n0 c0, .slice a1 n1 c1, .int .i64 N]) := Rx6aK.out.later bx7
  clear Rx6aK
  have Rx7xH : Hid (IRow x7 ghx n0 lh) := Rx6xH.out.later bx7
  clear Rx6xH
  have Rx7xB : Hid (Row x7 gbx n1 lb) := Rx6xB.out.later bx7
  clear Rx6xB
  have Rx7xK : Hid (Blk x7 x5.heap.size 39 [.slice (some ⟨ghx, 0, none⟩) n0 n0, .slice (some ⟨gbx, 0, none⟩) n1 n1, .int .i64 N]) := Nx6.out.later bx7
  clear Nx6
  have Bx7 : Hid (Below w.heap.size w x7) := Bx6.out.trans (bx7.mono Bx6.out.size)
  clear Bx6
  clear bx7
  have hbb : (ok != ok) = false := by simp
  have bxaK0 := Rx7aK.out.cell 0 rfl
  have bxaK1 := Rx7aK.out.cell 1 rfl
  have bxaK2 := Rx7aK.out.cell 2 rfl
  have bxxK0 := Rx7xK.out.cell 0 rfl
  have bxxK1 := Rx7xK.out.cell 1 rfl
  have bxxK2 := Rx7xK.out.cell 2 rfl
  go_wp2
  go_region_held3 (fun w' => w'.cell? ⟨x5.heap.size, 0, none⟩ = some (.slice (some ⟨ghx, 0, none⟩) n0 n0) ∧ w'.cell? ⟨x5.heap.size, 1, none⟩ = some (.slice (some ⟨gbx, 0, none⟩) n1 n1) ∧ w'.cell? ⟨x5.heap.size, 2, none⟩ = some (.int .i64 N) ∧ w'.cell? ⟨w.heap.size, 0, none⟩ = some (.slice a0 n0 c0) ∧ w'.cell? ⟨w.heap.size, 1, none⟩ = some (.slice a1 n1 c1) ∧ w'.cell? ⟨w.heap.size, 2, none⟩ = some (.int .i64 N)) (first | exact ⟨bxxK0, bxxK1, bxxK2, bxaK0, bxaK1, bxaK2⟩ | exact ⟨kyxK0, kyxK1, kyxK2, kyaK0, kyaK1, kyaK2⟩ | go_keep) (first | (go_at_call 32; refine (toHash a0 n0 c0 a1 n1 c1 N lh lb x7.drew HL0.out HL1.out (HR0.out.later Bx7.out.drew (Nat.le_refl _)) (HR1.out.later Bx7.out.drew (Nat.le_refl _)) (by omega) (by omega)).mono ?_; rintro e x8 ⟨ghy, gby, rfl, py, qy, ney, rhy, rby, bx8⟩; have kyxK0 := (Blk.later (blk_drew Rx7xK.out) bx8).cell 0 rfl; have kyxK1 := (Blk.later (blk_drew Rx7xK.out) bx8).cell 1 rfl; have kyxK2 := (Blk.later (blk_drew Rx7xK.out) bx8).cell 2 rfl; have kyaK0 := (Blk.later (blk_drew Rx7aK.out) bx8).cell 0 rfl; have kyaK1 := (Blk.later (blk_drew Rx7aK.out) bx8).cell 1 rfl; have kyaK2 := (Blk.later (blk_drew Rx7aK.out) bx8).cell 2 rfl) | (go_at_call 27; refine (eqHash _ n0 n0 _ n1 n1 _ n0 n0 _ n1 n1 N lh lb x8 HL0.out HL1.out HL0.out HL1.out (IRow.later (w := x7.drew) Rx7xH.out bx8).rd (Row.later (w := x7.drew) Rx7xB.out bx8).rd rhy.rd rby.rd (by rw [← HL0.out]; omega) (by rw [← HL1.out]; omega)).mono ?_; rintro e x9 ⟨rfl, bx9⟩; have kyxK0 := (Blk.later (Blk.later (blk_drew Rx7xK.out) bx8) bx9).cell 0 rfl; have kyxK1 := (Blk.later (Blk.later (blk_drew Rx7xK.out) bx8) bx9).cell 1 rfl; have kyxK2 := (Blk.later (Blk.later (blk_drew Rx7xK.out) bx8) bx9).cell 2 rfl; have kyaK0 := (Blk.later (Blk.later (blk_drew Rx7aK.out) bx8) bx9).cell 0 rfl; have kyaK1 := (Blk.later (Blk.later (blk_drew Rx7aK.out) bx8) bx9).cell 1 rfl; have kyaK2 := (Blk.later (Blk.later (blk_drew Rx7aK.out) bx8) bx9).cell 2 rfl))
  clear bxaK0 bxaK1 bxaK2 bxxK0 bxxK1 bxxK2
  clear kyxK0 kyxK1 kyxK2 kyaK0 kyaK1 kyaK2
  clear rhy rby py qy ney
  have bzx9 : Below x7.heap.size x7 x9 := (Below.drew (Below.refl _ _)).trans ((bx8 : Below x7.heap.size x7.drew x8).trans ((bx9 : Below x8.heap.size x8 x9).mono (bx8.size : x7.heap.size ≤ x8.heap.size)))
  clear bx8 bx9
  have Rx9aK : Hid (Blk x9 w.heap.size 43 [.slice a0 n0 c0, .slice a1 n1 c1, .int .i64 N]) := Rx7aK.out.later bzx9
  clear Rx7aK
  have Rx9xH : Hid (IRow x9 ghx n0 lh) := Rx7xH.out.later bzx9
  clear Rx7xH
  have Rx9xB : Hid (Row x9 gbx n1 lb) := Rx7xB.out.later bzx9
  clear Rx7xB
  have Rx9xK : Hid (Blk x9 x5.heap.size 39 [.slice (some ⟨ghx, 0, none⟩) n0 n0, .slice (some ⟨gbx, 0, none⟩) n1 n1, .int .i64 N]) := Rx7xK.out.later bzx9
  clear Rx7xK
  have Bx9 : Hid (Below w.heap.size w x9) := Bx7.out.trans (bzx9.mono Bx7.out.size)
  clear Bx7
  clear bzx9
  go_wp2
  go_ret
  exact ⟨rfl, Bx9.out⟩

theorem isRow_len {k : IntKind} {w : World} {a : Option Addr} {len cap : Nat} {zs : List Int} (h : IsRow k w a len cap zs) : len ≤ maxLen := by
  rcases h with ⟨_, rfl, _, _⟩ | ⟨_, _, h1, h2, _⟩
  · exact Nat.zero_le _
  · exact Nat.le_trans h1 h2

theorem walk (a0 : Option Addr) (n0 c0 : Nat) (z0 : List Int) (a1 : Option Addr) (n1 c1 : Nat) (z1 : List Int) (N : Int) (w : World) (h0 : IsRow .i64 w a0 n0 c0 z0) (h1 : IsRow .u8 w a1 n1 c1 z1) :
    Calls Try.prog 8 #[hashV a0 n0 c0 a1 n1 c1 N] w fun e w' => e = .returned (.bool true) ∧ Below w.heap.size w w' := by
  by_cases hs : n0 + n1 ≤ 1048576
  · obtain ⟨lh, hl0, hr0, _, _⟩ := readI h0
    obtain ⟨lb, hl1, hr1, na1, hb1⟩ := h1.read
    exact small a0 n0 c0 a1 n1 c1 N lh lb w hl0 hl1 hr0 hr1 hs
  · have m0 := isRow_len h0
    have m1 := isRow_len h1
    have A0 : Hid (Below w.heap.size w (w.alloc (.cells #[.slice a0 n0 c0, .slice a1 n1 c1, .int .i64 N] 43))) := (Below.refl _ _).alloc (Nat.le_refl _) _
    clear h0 h1
    unfold hashV
    go_enter Try.func8, Try.ntmps8
    go_wp2_with fail
    refine (szBig a0 n0 c0 a1 n1 c1 N _ (by omega) m0 m1).mono ?_
    rintro e w1 ⟨rfl, b1⟩
    have B1 : Hid (Below w.heap.size w w1) := A0.out.trans (b1.mono A0.out.size)
    clear b1
    go_wp2
    go_ret
    exact ⟨rfl, B1.out⟩
end Go.Proofs.Ytippfkoondknkaa.LawHashOk
