/-
  laws.FnExactHashNew answers true; nothing that was there is written into.
-/
import Derived.Test.YtippfkoondknkaaHashO
namespace Go.Proofs.Ytippfkoondknkaa.LawHashNew
open Go.RowKit Go.Proofs.Ytippfkoondknkaa.Mem Go.Proofs.Ytippfkoondknkaa.MemI Go.Proofs.Ytippfkoondknkaa.Blk Go.Proofs.Ytippfkoondknkaa.App Go.Proofs.Ytippfkoondknkaa.ShaP Go.Proofs.Ytippfkoondknkaa.Hashs Go.Proofs.Ytippfkoondknkaa.HashH Go.Proofs.Ytippfkoondknkaa.HashO

set_option maxHeartbeats 1600000 in
theorem walk (w : World) :
    Calls Try.prog 7 #[] w fun e w' => e = .returned (.bool true) ∧ Below w.heap.size w w' := by
  have HPH : Hid (start8.length ≤ 1048576) := (by decide : start8.length ≤ 1048576)
  have HPB : Hid (([] : List Int).length ≤ 1048576) := (by decide : ([] : List Int).length ≤ 1048576)
  go_enter Try.func7, Try.ntmps7
  go_wp2_with fail
  refine (specHashNew _).mono ?_
  rintro e x1 ⟨ghw, rfl, px1, rx1, bx1⟩
  have Nx1 : Hid (IRow x1 ghw 8 start8) := rx1
  have GEwH : Hid (w.heap.size ≤ ghw) := px1
  clear rx1 px1
  have Bx1 : Hid (Below w.heap.size w x1) := bx1
  clear bx1
  unfold hashV
  obtain ⟨x2, hx2⟩ : ∃ x2, x1.alloc (.cells #[.slice (some ⟨ghw, 0, none⟩) 8 8, .slice none 0 0, .int .i64 0] 39) = x2 := ⟨_, rfl⟩
  have HWx2 : Hid (x1.alloc (.cells #[.slice (some ⟨ghw, 0, none⟩) 8 8, .slice none 0 0, .int .i64 0] 39) = x2) := hx2
  have Nx2 : Hid (Blk x2 x1.heap.size 39 [.slice (some ⟨ghw, 0, none⟩) 8 8, .slice none 0 0, .int .i64 0]) := by rw [← hx2]; exact Blk.new x1 39 [.slice (some ⟨ghw, 0, none⟩) 8 8, .slice none 0 0, .int .i64 0]
  have bx2 : Below x1.heap.size x1 x2 := by rw [← hx2]; exact (Below.refl _ _).alloc (Nat.le_refl _) _
  have bx2 : Hid (Below x1.heap.size x1 x2) := bx2
  clear hx2
  go_wp2_with fail
  rw [HWx2.out]
  have NEwHwK : Hid (ghw ≠ x1.heap.size) := Nat.ne_of_lt (Nat.lt_of_lt_of_le Nx1.out.lt (Nat.le_refl _))
  have GEwK : Hid (w.heap.size ≤ x1.heap.size) := Nat.le_trans Bx1.out.size (Nat.le_refl _)
  have bx2 := bx2.out
  have Rx2wH : Hid (IRow x2 ghw 8 start8) := Nx1.out.later bx2
  clear Nx1
  have Bx2 : Hid (Below w.heap.size w x2) := Bx1.out.trans (bx2.mono Bx1.out.size)
  clear Bx1
  clear bx2
  refine (implHashNewR _).mono ?_
  rintro e x3 ⟨ghg, mhg, chg, gbg, mbg, cbg, rfl, ehx3, ebx3, px3, qx3, nex3, rhx3, rbx3, bx3⟩
  have Ehg : Hid (mhg = start8.length) := ehx3
  have Ebg : Hid (mbg = [].length) := ebx3
  clear ehx3 ebx3
  have lhg : mhg ≤ 1048576 := by rw [Ehg.out]; exact HPH.out
  have lbg : mbg ≤ 1048576 := by rw [Ebg.out]; exact HPB.out
  have Nx3H : Hid (IRow x3 ghg chg start8) := rhx3
  have Nx3B : Hid (Row x3 gbg cbg []) := rbx3
  have NEgHgB : Hid (ghg ≠ gbg) := nex3
  have NEwHgH : Hid (ghw ≠ ghg) := Nat.ne_of_lt (Nat.lt_of_lt_of_le Rx2wH.out.lt px3)
  have NEwKgH : Hid (x1.heap.size ≠ ghg) := Nat.ne_of_lt (Nat.lt_of_lt_of_le Nx2.out.lt px3)
  have GEgH : Hid (w.heap.size ≤ ghg) := Nat.le_trans Bx2.out.size px3
  have NEwHgB : Hid (ghw ≠ gbg) := Nat.ne_of_lt (Nat.lt_of_lt_of_le Rx2wH.out.lt qx3)
  have NEwKgB : Hid (x1.heap.size ≠ gbg) := Nat.ne_of_lt (Nat.lt_of_lt_of_le Nx2.out.lt qx3)
  have GEgB : Hid (w.heap.size ≤ gbg) := Nat.le_trans Bx2.out.size qx3
  clear rhx3 rbx3 px3 qx3 nex3
  have Rx3wH : Hid (IRow x3 ghw 8 start8) := Rx2wH.out.later bx3
  clear Rx2wH
  have Rx3wK : Hid (Blk x3 x1.heap.size 39 [.slice (some ⟨ghw, 0, none⟩) 8 8, .slice none 0 0, .int .i64 0]) := Nx2.out.later bx3
  clear Nx2
  have Bx3 : Hid (Below w.heap.size w x3) := Bx2.out.trans (bx3.mono Bx2.out.size)
  clear Bx2
  clear bx3
  unfold hashV
  have bxwK0 := Rx3wK.out.cell 0 rfl
  have bxwK1 := Rx3wK.out.cell 1 rfl
  have bxwK2 := Rx3wK.out.cell 2 rfl
  have axwK0 := (Rx3wK.out.alloc (.cells #[.slice (some ⟨ghg, 0, none⟩) mhg chg, .slice (some ⟨gbg, 0, none⟩) mbg cbg, .int .i64 0] 39)).cell 0 rfl
  have axwK1 := (Rx3wK.out.alloc (.cells #[.slice (some ⟨ghg, 0, none⟩) mhg chg, .slice (some ⟨gbg, 0, none⟩) mbg cbg, .int .i64 0] 39)).cell 1 rfl
  have axwK2 := (Rx3wK.out.alloc (.cells #[.slice (some ⟨ghg, 0, none⟩) mhg chg, .slice (some ⟨gbg, 0, none⟩) mbg cbg, .int .i64 0] 39)).cell 2 rfl
  obtain ⟨x4, hx4⟩ : ∃ x4, x3.alloc (.cells #[.slice (some ⟨ghg, 0, none⟩) mhg chg, .slice (some ⟨gbg, 0, none⟩) mbg cbg, .int .i64 0] 39) = x4 := ⟨_, rfl⟩
  have HWx4 : Hid (x3.alloc (.cells #[.slice (some ⟨ghg, 0, none⟩) mhg chg, .slice (some ⟨gbg, 0, none⟩) mbg cbg, .int .i64 0] 39) = x4) := hx4
  have Nx4 : Hid (Blk x4 x3.heap.size 39 [.slice (some ⟨ghg, 0, none⟩) mhg chg, .slice (some ⟨gbg, 0, none⟩) mbg cbg, .int .i64 0]) := by rw [← hx4]; exact Blk.new x3 39 [.slice (some ⟨ghg, 0, none⟩) mhg chg, .slice (some ⟨gbg, 0, none⟩) mbg cbg, .int .i64 0]
  have bx4 : Below x3.heap.size x3 x4 := by rw [← hx4]; exact (Below.refl _ _).alloc (Nat.le_refl _) _
  have bx4 : Hid (Below x3.heap.size x3 x4) := bx4
  clear hx4
  go_wp2_with fail
  rw [HWx4.out]
  clear bxwK0 bxwK1 bxwK2 axwK0 axwK1 axwK2
  have NEwHgK : Hid (ghw ≠ x3.heap.size) := Nat.ne_of_lt (Nat.lt_of_lt_of_le Rx3wH.out.lt (Nat.le_refl _))
  have NEwKgK : Hid (x1.heap.size ≠ x3.heap.size) := Nat.ne_of_lt (Nat.lt_of_lt_of_le Rx3wK.out.lt (Nat.le_refl _))
  have NEgHgK : Hid (ghg ≠ x3.heap.size) := Nat.ne_of_lt (Nat.lt_of_lt_of_le Nx3H.out.lt (Nat.le_refl _))
  have NEgBgK : Hid (gbg ≠ x3.heap.size) := Nat.ne_of_lt (Nat.lt_of_lt_of_le Nx3B.out.lt (Nat.le_refl _))
  have GEgK : Hid (w.heap.size ≤ x3.heap.size) := Nat.le_trans Bx3.out.size (Nat.le_refl _)
  have bx4 := bx4.out
  have Rx4wH : Hid (IRow x4 ghw 8 start8) := Rx3wH.out.later bx4
  clear Rx3wH
  have Rx4wK : Hid (Blk x4 x1.heap.size 39 [.slice (some ⟨ghw, 0, none⟩) 8 8, .slice none 0 0, .int .i64 0]) := Rx3wK.out.later bx4
  clear Rx3wK
  have Rx4gH : Hid (IRow x4 ghg chg start8) := Nx3H.out.later bx4
  clear Nx3H
  have Rx4gB : Hid (Row x4 gbg cbg []) := Nx3B.out.later bx4
  clear Nx3B
  have Bx4 : Hid (Below w.heap.size w x4) := Bx3.out.trans (bx4.mono Bx3.out.size)
  clear Bx3
  clear bx4
  refine (eqHash _ mhg chg _ mbg cbg _ 8 8 _ 0 0 0 start8 [] _ Ehg.out Ebg.out (rfl : 8 = start8.length) rfl Rx4gH.out.rd Rx4gB.out.rd Rx4wH.out.rd (by intro i hi; cases hi) (by have := HPH.out; omega) (by have := HPB.out; omega)).mono ?_
  rintro e x5 ⟨rfl, bx5⟩
  have Rx5wH : Hid (IRow x5 ghw 8 start8) := Rx4wH.out.later bx5
  clear Rx4wH
  have Rx5wK : Hid (Blk x5 x1.heap.size 39 [.slice (some ⟨ghw, 0, none⟩) 8 8, .slice none 0 0, .int .i64 0]) := Rx4wK.out.later bx5
  clear Rx4wK
  have Rx5gH : Hid (IRow x5 ghg chg start8) := Rx4gH.out.later bx5
  clear Rx4gH
  have Rx5gB : Hid (Row x5 gbg cbg []) := Rx4gB.out.later bx5
  clear Rx4gB
  have Rx5gK : Hid (Blk x5 x3.heap.size 39 [.slice (some ⟨ghg, 0, none⟩) mhg chg, .slice (some ⟨gbg, 0, none⟩) mbg cbg, .int .i64 0]) := Nx4.out.later bx5
  clear Nx4
  have Bx5 : Hid (Below w.heap.size w x5) := Bx4.out.trans (bx5.mono Bx4.out.size)
  clear Bx4
  clear bx5
  have bxwK0 := Rx5wK.out.cell 0 rfl
  have bxwK1 := Rx5wK.out.cell 1 rfl
  have bxwK2 := Rx5wK.out.cell 2 rfl
  have bxgK0 := Rx5gK.out.cell 0 rfl
  have bxgK1 := Rx5gK.out.cell 1 rfl
  have bxgK2 := Rx5gK.out.cell 2 rfl
  go_wp2_with fail
  clear bxwK0 bxwK1 bxwK2 bxgK0 bxgK1 bxgK2
  refine (markHash ghg mhg chg gbg mbg cbg 0 start8 [] 1 _ Ehg.out Ebg.out Rx5gH.out Rx5gB.out NEgHgB.out (by have := HPH.out; omega) (by have := HPB.out; omega) (by omega) (by omega)).mono ?_
  rintro e x6 ⟨rfl, rx6, ux6, tx6⟩
  have Nx6H : Hid (IRow x6 ghg chg (imarks 1 mhg)) := rx6
  have Nx6B : Hid (Row x6 gbg cbg (marks (1 + mhg) mbg)) := ux6
  clear rx6 ux6 Rx5gH Rx5gB
  have Rx6wH : Hid (IRow x6 ghw 8 start8) := Rx5wH.out.keep (tx6.2.2.2.2 _ Rx5wH.out.lt NEwHgH.out NEwHgB.out)
  clear Rx5wH
  have Rx6wK : Hid (Blk x6 x1.heap.size 39 [.slice (some ⟨ghw, 0, none⟩) 8 8, .slice none 0 0, .int .i64 0]) := Rx5wK.out.keep (tx6.2.2.2.2 _ Rx5wK.out.lt NEwKgH.out NEwKgB.out)
  clear Rx5wK
  have Rx6gK : Hid (Blk x6 x3.heap.size 39 [.slice (some ⟨ghg, 0, none⟩) mhg chg, .slice (some ⟨gbg, 0, none⟩) mbg cbg, .int .i64 0]) := Rx5gK.out.keep (tx6.2.2.2.2 _ Rx5gK.out.lt (Ne.symm NEgHgK.out) (Ne.symm NEgBgK.out))
  clear Rx5gK
  have Bx6 : Hid (Below w.heap.size w x6) := tx6.below Bx5.out GEgH.out GEgB.out
  clear Bx5 tx6
  have bxwK0 := Rx6wK.out.cell 0 rfl
  have bxwK1 := Rx6wK.out.cell 1 rfl
  have bxwK2 := Rx6wK.out.cell 2 rfl
  have bxgK0 := Rx6gK.out.cell 0 rfl
  have bxgK1 := Rx6gK.out.cell 1 rfl
  have bxgK2 := Rx6gK.out.cell 2 rfl
  go_wp2_with fail
  clear bxwK0 bxwK1 bxwK2 bxgK0 bxgK1 bxgK2
  refine (heldHash _ mhg chg _ mbg cbg 0 1 _ Nx6H.out.rd Nx6B.out.rd (by omega) (by omega) (by omega) (by omega)).mono ?_
  rintro e x7 ⟨rfl, bx7⟩
  have Rx7wH : Hid (IRow x7 ghw 8 start8) := Rx6wH.out.later bx7
  clear Rx6wH
  have Rx7wK : Hid (Blk x7 x1.heap.size 39 [.slice (some ⟨ghw, 0, none⟩) 8 8, .slice none 0 0, .int .i64 0]) := Rx6wK.out.later bx7
  clear Rx6wK
  have Rx7gK : Hid (Blk x7 x3.heap.size 39 [.slice (some ⟨ghg, 0, none⟩) mhg chg, .slice (some ⟨gbg, 0, none⟩) mbg cbg, .int .i64 0]) := Rx6gK.out.later bx7
  clear Rx6gK
  have Rx7gH : Hid (IRow x7 ghg chg (imarks 1 mhg)) := Nx6H.out.later bx7
  clear Nx6H
  have Rx7gB : Hid (Row x7 gbg cbg (marks (1 + mhg) mbg)) := Nx6B.out.later bx7
  clear Nx6B
  have Bx7 : Hid (Below w.heap.size w x7) := Bx6.out.trans (bx7.mono Bx6.out.size)
  clear Bx6
  clear bx7
  have bxwK0 := Rx7wK.out.cell 0 rfl
  have bxwK1 := Rx7wK.out.cell 1 rfl
  have bxwK2 := Rx7wK.out.cell 2 rfl
  have bxgK0 := Rx7gK.out.cell 0 rfl
  have bxgK1 := Rx7gK.out.cell 1 rfl
  have bxgK2 := Rx7gK.out.cell 2 rfl
  go_wp2_with fail
  clear bxwK0 bxwK1 bxwK2 bxgK0 bxgK1 bxgK2
  refine (implHashNewR _).mono ?_
  rintro e x8 ⟨ghh, mhh, chh, gbh, mbh, cbh, rfl, ehx8, ebx8, px8, qx8, nex8, rhx8, rbx8, bx8⟩
  have Ehh : Hid (mhh = start8.length) := ehx8
  have Ebh : Hid (mbh = [].length) := ebx8
  clear ehx8 ebx8
  have lhh : mhh ≤ 1048576 := by rw [Ehh.out]; exact HPH.out
  have lbh : mbh ≤ 1048576 := by rw [Ebh.out]; exact HPB.out
  have Nx8H : Hid (IRow x8 ghh chh start8) := rhx8
  have Nx8B : Hid (Row x8 gbh cbh []) := rbx8
  have NEhHhB : Hid (ghh ≠ gbh) := nex8
  have NEwHhH : Hid (ghw ≠ ghh) := Nat.ne_of_lt (Nat.lt_of_lt_of_le Rx7wH.out.lt px8)
  have NEwKhH : Hid (x1.heap.size ≠ ghh) := Nat.ne_of_lt (Nat.lt_of_lt_of_le Rx7wK.out.lt px8)
  have NEgKhH : Hid (x3.heap.size ≠ ghh) := Nat.ne_of_lt (Nat.lt_of_lt_of_le Rx7gK.out.lt px8)
  have NEgHhH : Hid (ghg ≠ ghh) := Nat.ne_of_lt (Nat.lt_of_lt_of_le Rx7gH.out.lt px8)
  have NEgBhH : Hid (gbg ≠ ghh) := Nat.ne_of_lt (Nat.lt_of_lt_of_le Rx7gB.out.lt px8)
  have GEhH : Hid (w.heap.size ≤ ghh) := Nat.le_trans Bx7.out.size px8
  have NEwHhB : Hid (ghw ≠ gbh) := Nat.ne_of_lt (Nat.lt_of_lt_of_le Rx7wH.out.lt qx8)
  have NEwKhB : Hid (x1.heap.size ≠ gbh) := Nat.ne_of_lt (Nat.lt_of_lt_of_le Rx7wK.out.lt qx8)
  have NEgKhB : Hid (x3.heap.size ≠ gbh) := Nat.ne_of_lt (Nat.lt_of_lt_of_le Rx7gK.out.lt qx8)
  have NEgHhB : Hid (ghg ≠ gbh) := Nat.ne_of_lt (Nat.lt_of_lt_of_le Rx7gH.out.lt qx8)
  have NEgBhB : Hid (gbg ≠ gbh) := Nat.ne_of_lt (Nat.lt_of_lt_of_le Rx7gB.out.lt qx8)
  have GEhB : Hid (w.heap.size ≤ gbh) := Nat.le_trans Bx7.out.size qx8
  clear rhx8 rbx8 px8 qx8 nex8
  have Rx8wH : Hid (IRow x8 ghw 8 start8) := Rx7wH.out.later bx8
  clear Rx7wH
  have Rx8wK : Hid (Blk x8 x1.heap.size 39 [.slice (some ⟨ghw, 0, none⟩) 8 8, .slice none 0 0, .int .i64 0]) := Rx7wK.out.later bx8
  clear Rx7wK
  have Rx8gK : Hid (Blk x8 x3.heap.size 39 [.slice (some ⟨ghg, 0, none⟩) mhg chg, .slice (some ⟨gbg, 0, none⟩) mbg cbg, .int .i64 0]) := Rx7gK.out.later bx8
  clear Rx7gK
  have Rx8gH : Hid (IRow x8 ghg chg (imarks 1 mhg)) := Rx7gH.out.later bx8
  clear Rx7gH
  have Rx8gB : Hid (Row x8 gbg cbg (marks (1 + mhg) mbg)) := Rx7gB.out.later bx8
  clear Rx7gB
  have Bx8 : Hid (Below w.heap.size w x8) := Bx7.out.trans (bx8.mono Bx7.out.size)
  clear Bx7
  clear bx8
  unfold hashV
  have bxwK0 := Rx8wK.out.cell 0 rfl
  have bxwK1 := Rx8wK.out.cell 1 rfl
  have bxwK2 := Rx8wK.out.cell 2 rfl
  have bxgK0 := Rx8gK.out.cell 0 rfl
  have bxgK1 := Rx8gK.out.cell 1 rfl
  have bxgK2 := Rx8gK.out.cell 2 rfl
  have axwK0 := (Rx8wK.out.alloc (.cells #[.slice (some ⟨ghh, 0, none⟩) mhh chh, .slice (some ⟨gbh, 0, none⟩) mbh cbh, .int .i64 0] 39)).cell 0 rfl
  have axwK1 := (Rx8wK.out.alloc (.cells #[.slice (some ⟨ghh, 0, none⟩) mhh chh, .slice (some ⟨gbh, 0, none⟩) mbh cbh, .int .i64 0] 39)).cell 1 rfl
  have axwK2 := (Rx8wK.out.alloc (.cells #[.slice (some ⟨ghh, 0, none⟩) mhh chh, .slice (some ⟨gbh, 0, none⟩) mbh cbh, .int .i64 0] 39)).cell 2 rfl
  have axgK0 := (Rx8gK.out.alloc (.cells #[.slice (some ⟨ghh, 0, none⟩) mhh chh, .slice (some ⟨gbh, 0, none⟩) mbh cbh, .int .i64 0] 39)).cell 0 rfl
  have axgK1 := (Rx8gK.out.alloc (.cells #[.slice (some ⟨ghh, 0, none⟩) mhh chh, .slice (some ⟨gbh, 0, none⟩) mbh cbh, .int .i64 0] 39)).cell 1 rfl
  have axgK2 := (Rx8gK.out.alloc (.cells #[.slice (some ⟨ghh, 0, none⟩) mhh chh, .slice (some ⟨gbh, 0, none⟩) mbh cbh, .int .i64 0] 39)).cell 2 rfl
  obtain ⟨x9, hx9⟩ : ∃ x9, x8.alloc (.cells #[.slice (some ⟨ghh, 0, none⟩) mhh chh, .slice (some ⟨gbh, 0, none⟩) mbh cbh, .int .i64 0] 39) = x9 := ⟨_, rfl⟩
  have HWx9 : Hid (x8.alloc (.cells #[.slice (some ⟨ghh, 0, none⟩) mhh chh, .slice (some ⟨gbh, 0, none⟩) mbh cbh, .int .i64 0] 39) = x9) := hx9
  have Nx9 : Hid (Blk x9 x8.heap.size 39 [.slice (some ⟨ghh, 0, none⟩) mhh chh, .slice (some ⟨gbh, 0, none⟩) mbh cbh, .int .i64 0]) := by rw [← hx9]; exact Blk.new x8 39 [.slice (some ⟨ghh, 0, none⟩) mhh chh, .slice (some ⟨gbh, 0, none⟩) mbh cbh, .int .i64 0]
  have bx9 : Below x8.heap.size x8 x9 := by rw [← hx9]; exact (Below.refl _ _).alloc (Nat.le_refl _) _
  have bx9 : Hid (Below x8.heap.size x8 x9) := bx9
  clear hx9
  go_wp2_with fail
  rw [HWx9.out]
  clear bxwK0 bxwK1 bxwK2 bxgK0 bxgK1 bxgK2 axwK0 axwK1 axwK2 axgK0 axgK1 axgK2
  have NEwHhK : Hid (ghw ≠ x8.heap.size) := Nat.ne_of_lt (Nat.lt_of_lt_of_le Rx8wH.out.lt (Nat.le_refl _))
  have NEwKhK : Hid (x1.heap.size ≠ x8.heap.size) := Nat.ne_of_lt (Nat.lt_of_lt_of_le Rx8wK.out.lt (Nat.le_refl _))
  have NEgKhK : Hid (x3.heap.size ≠ x8.heap.size) := Nat.ne_of_lt (Nat.lt_of_lt_of_le Rx8gK.out.lt (Nat.le_refl _))
  have NEgHhK : Hid (ghg ≠ x8.heap.size) := Nat.ne_of_lt (Nat.lt_of_lt_of_le Rx8gH.out.lt (Nat.le_refl _))
  have NEgBhK : Hid (gbg ≠ x8.heap.size) := Nat.ne_of_lt (Nat.lt_of_lt_of_le Rx8gB.out.lt (Nat.le_refl _))
  have NEhHhK : Hid (ghh ≠ x8.heap.size) := Nat.ne_of_lt (Nat.lt_of_lt_of_le Nx8H.out.lt (Nat.le_refl _))
  have NEhBhK : Hid (gbh ≠ x8.heap.size) := Nat.ne_of_lt (Nat.lt_of_lt_of_le Nx8B.out.lt (Nat.le_refl _))
  have GEhK : Hid (w.heap.size ≤ x8.heap.size) := Nat.le_trans Bx8.out.size (Nat.le_refl _)
  have bx9 := bx9.out
  have Rx9wH : Hid (IRow x9 ghw 8 start8) := Rx8wH.out.later bx9
  clear Rx8wH
  have Rx9wK : Hid (Blk x9 x1.heap.size 39 [.slice (some ⟨ghw, 0, none⟩) 8 8, .slice none 0 0, .int .i64 0]) := Rx8wK.out.later bx9
  clear Rx8wK
  have Rx9gK : Hid (Blk x9 x3.heap.size 39 [.slice (some ⟨ghg, 0, none⟩) mhg chg, .slice (some ⟨gbg, 0, none⟩) mbg cbg, .int .i64 0]) := Rx8gK.out.later bx9
  clear Rx8gK
  have Rx9gH : Hid (IRow x9 ghg chg (imarks 1 mhg)) := Rx8gH.out.later bx9
  clear Rx8gH
  have Rx9gB : Hid (Row x9 gbg cbg (marks (1 + mhg) mbg)) := Rx8gB.out.later bx9
  clear Rx8gB
  have Rx9hH : Hid (IRow x9 ghh chh start8) := Nx8H.out.later bx9
  clear Nx8H
  have Rx9hB : Hid (Row x9 gbh cbh []) := Nx8B.out.later bx9
  clear Nx8B
  have Bx9 : Hid (Below w.heap.size w x9) := Bx8.out.trans (bx9.mono Bx8.out.size)
  clear Bx8
  clear bx9
  refine (eqHash _ mhh chh _ mbh cbh _ 8 8 _ 0 0 0 start8 [] _ Ehh.out Ebh.out (rfl : 8 = start8.length) rfl Rx9hH.out.rd Rx9hB.out.rd Rx9wH.out.rd (by intro i hi; cases hi) (by have := HPH.out; omega) (by have := HPB.out; omega)).mono ?_
  rintro e x10 ⟨rfl, bx10⟩
  have Rx10wH : Hid (IRow x10 ghw 8 start8) := Rx9wH.out.later bx10
  clear Rx9wH
  have Rx10wK : Hid (Blk x10 x1.heap.size 39 [.slice (some ⟨ghw, 0, none⟩) 8 8, .slice none 0 0, .int .i64 0]) := Rx9wK.out.later bx10
  clear Rx9wK
  have Rx10gK : Hid (Blk x10 x3.heap.size 39 [.slice (some ⟨ghg, 0, none⟩) mhg chg, .slice (some ⟨gbg, 0, none⟩) mbg cbg, .int .i64 0]) := Rx9gK.out.later bx10
  clear Rx9gK
  have Rx10gH : Hid (IRow x10 ghg chg (imarks 1 mhg)) := Rx9gH.out.later bx10
  clear Rx9gH
  have Rx10gB : Hid (Row x10 gbg cbg (marks (1 + mhg) mbg)) := Rx9gB.out.later bx10
  clear Rx9gB
  have Rx10hH : Hid (IRow x10 ghh chh start8) := Rx9hH.out.later bx10
  clear Rx9hH
  have Rx10hB : Hid (Row x10 gbh cbh []) := Rx9hB.out.later bx10
  clear Rx9hB
  have Rx10hK : Hid (Blk x10 x8.heap.size 39 [.slice (some ⟨ghh, 0, none⟩) mhh chh, .slice (some ⟨gbh, 0, none⟩) mbh cbh, .int .i64 0]) := Nx9.out.later bx10
  clear Nx9
  have Bx10 : Hid (Below w.heap.size w x10) := Bx9.out.trans (bx10.mono Bx9.out.size)
  clear Bx9
  clear bx10
  have bxwK0 := Rx10wK.out.cell 0 rfl
  have bxwK1 := Rx10wK.out.cell 1 rfl
  have bxwK2 := Rx10wK.out.cell 2 rfl
  have bxgK0 := Rx10gK.out.cell 0 rfl
  have bxgK1 := Rx10gK.out.cell 1 rfl
  have bxgK2 := Rx10gK.out.cell 2 rfl
  have bxhK0 := Rx10hK.out.cell 0 rfl
  have bxhK1 := Rx10hK.out.cell 1 rfl
  have bxhK2 := Rx10hK.out.cell 2 rfl
  go_wp2_with fail
  clear bxwK0 bxwK1 bxwK2 bxgK0 bxgK1 bxgK2 bxhK0 bxhK1 bxhK2
  refine (heldHash _ mhg chg _ mbg cbg 0 1 _ Rx10gH.out.rd Rx10gB.out.rd (by omega) (by omega) (by omega) (by omega)).mono ?_
  rintro e x11 ⟨rfl, bx11⟩
  have Rx11wH : Hid (IRow x11 ghw 8 start8) := Rx10wH.out.later bx11
  clear Rx10wH
  have Rx11wK : Hid (Blk x11 x1.heap.size 39 [.slice (some ⟨ghw, 0, none⟩) 8 8, .slice none 0 0, .int .i64 0]) := Rx10wK.out.later bx11
  clear Rx10wK
  have Rx11gK : Hid (Blk x11 x3.heap.size 39 [.slice (some ⟨ghg, 0, none⟩) mhg chg, .slice (some ⟨gbg, 0, none⟩) mbg cbg, .int .i64 0]) := Rx10gK.out.later bx11
  clear Rx10gK
  have Rx11gH : Hid (IRow x11 ghg chg (imarks 1 mhg)) := Rx10gH.out.later bx11
  clear Rx10gH
  have Rx11gB : Hid (Row x11 gbg cbg (marks (1 + mhg) mbg)) := Rx10gB.out.later bx11
  clear Rx10gB
  have Rx11hH : Hid (IRow x11 ghh chh start8) := Rx10hH.out.later bx11
  clear Rx10hH
  have Rx11hB : Hid (Row x11 gbh cbh []) := Rx10hB.out.later bx11
  clear Rx10hB
  have Rx11hK : Hid (Blk x11 x8.heap.size 39 [.slice (some ⟨ghh, 0, none⟩) mhh chh, .slice (some ⟨gbh, 0, none⟩) mbh cbh, .int .i64 0]) := Rx10hK.out.later bx11
  clear Rx10hK
  have Bx11 : Hid (Below w.heap.size w x11) := Bx10.out.trans (bx11.mono Bx10.out.size)
  clear Bx10
  clear bx11
  have bxwK0 := Rx11wK.out.cell 0 rfl
  have bxwK1 := Rx11wK.out.cell 1 rfl
  have bxwK2 := Rx11wK.out.cell 2 rfl
  have bxgK0 := Rx11gK.out.cell 0 rfl
  have bxgK1 := Rx11gK.out.cell 1 rfl
  have bxgK2 := Rx11gK.out.cell 2 rfl
  have bxhK0 := Rx11hK.out.cell 0 rfl
  have bxhK1 := Rx11hK.out.cell 1 rfl
  have bxhK2 := Rx11hK.out.cell 2 rfl
  go_wp2
  go_ret
  exact ⟨rfl, Bx11.out⟩
end Go.Proofs.Ytippfkoondknkaa.LawHashNew
