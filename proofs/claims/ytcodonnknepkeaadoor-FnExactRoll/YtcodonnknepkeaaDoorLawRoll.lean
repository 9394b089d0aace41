/-
  The walk of the law FnExactRoll: at every argument it answers true, and nothing that was there is written.
-/
import Derived.Test.YtcodonnknepkeaaDoorDiJ
import Derived.Test.YtcodonnknepkeaaDoorDiT
import Derived.Test.YtcodonnknepkeaaDoorShp
import Derived.Test.YtcodonnknepkeaaDoorOps
import Derived.Test.YtcodonnknepkeaaDoorDiL
namespace Go.Proofs.YtcodonnknepkeaaDoor.LawRoll
open Go.RowKit Go.Proofs.YtcodonnknepkeaaDoor.Mem Go.Proofs.YtcodonnknepkeaaDoor.Blk Go.Proofs.YtcodonnknepkeaaDoor.Zone Go.Proofs.YtcodonnknepkeaaDoor.ZoneB Go.Proofs.YtcodonnknepkeaaDoor.ZoneI Go.Proofs.YtcodonnknepkeaaDoor.MemI Go.Proofs.YtcodonnknepkeaaDoor.Each Go.Proofs.YtcodonnknepkeaaDoor.Copy Go.Proofs.YtcodonnknepkeaaDoor.Ops Go.Proofs.YtcodonnknepkeaaDoor.Shp Go.Proofs.YtcodonnknepkeaaDoor.App Go.Proofs.YtcodonnknepkeaaDoor.DiZ Go.Proofs.YtcodonnknepkeaaDoor.DiL Go.Proofs.YtcodonnknepkeaaDoor.DiP Go.Proofs.YtcodonnknepkeaaDoor.DiQ Go.Proofs.YtcodonnknepkeaaDoor.Comp

set_option maxRecDepth 100000 in
set_option maxHeartbeats 8000000 in
theorem walk (D0 : DiD) (S0 : DiS) (w : World) (hT : Tab w) (h0 : DiRd w S0 D0) (m0 : DiSmall S0) :
    Calls Tryd.prog 5 #[diV D0 S0] w fun e w' => e = .returned (.bool true) ∧ Below w.heap.size w w' := by
  obtain ⟨R0, hR0⟩ : ∃ R : DiD, rollD D0 = R := ⟨_, rfl⟩
  have HRD0 : Hid (rollD D0 = R0) := hR0
  clear hR0
  obtain ⟨R1, hR1⟩ : ∃ R : List Int, rollL D0 = R := ⟨_, rfl⟩
  have HRD1 : Hid (rollL D0 = R1) := hR1
  clear hR1
  have HT : Hid (Tab w) := hT
  clear hT
  have HR0 : Hid (DiRd w S0 D0) := h0
  have HM0 : Hid (DiSmall S0) := m0
  clear h0 m0
  obtain ⟨x1, hx1⟩ : ∃ x1, w.alloc (.cells #[.slice S0.seed.a S0.seed.n S0.seed.c, .int .i64 D0.num] 36) = x1 := ⟨_, rfl⟩
  have HW0 : Hid (w.alloc (.cells #[.slice S0.seed.a S0.seed.n S0.seed.c, .int .i64 D0.num] 36) = x1) := hx1
  have b1 : Below w.heap.size w x1 := by rw [← hx1]; exact (Below.refl _ _).alloc (Nat.le_refl _) _
  have KN0 : Blk x1 (w.heap.size) 36 [.slice S0.seed.a S0.seed.n S0.seed.c, .int .i64 D0.num] := by
    have q := Blk.new (w) 36 [.slice S0.seed.a S0.seed.n S0.seed.c, .int .i64 D0.num]
    rw [← hx1]; exact q
  have SZ1 : x1.heap.size = w.heap.size + 1 := by rw [← hx1]; simp
  clear hx1
  have L1 : Hid (w.heap.size ≤ x1.heap.size) := b1.size
  have B1 : Hid (Below w.heap.size w x1) := b1
  clear b1
  unfold diV
  go_enter Tryd.func5, Tryd.ntmps5
  go_upto_region 1 with fail
  rw [HW0.out]
  obtain ⟨ga0, hga0⟩ : ∃ g, w.heap.size = g := ⟨_, rfl⟩
  have Gga : Hid (w.heap.size + 0 = ga0 ∧ x1.heap.size = w.heap.size + 1) := ⟨by omega, SZ1⟩
  rw [hga0] at KN0
  rw [hga0]
  clear HW0 SZ1 hga0
  have KA0_1 : Hid (Blk x1 ga0 36 [.slice S0.seed.a S0.seed.n S0.seed.c, .int .i64 D0.num]) := KN0
  clear KN0
  have c0 := KA0_1.out.cell 0 rfl
  have c1 := KA0_1.out.cell 1 rfl
  go_wp2_with fail
  refine (szDice S0 D0 (1048576 : Int) x1 HM0.out (by omega) (by omega)).mono ?_
  rintro e x2 ⟨rfl, b2⟩
  clear c0 c1
  have L2 : Hid (x1.heap.size ≤ x2.heap.size) := b2.size
  have B2 : Hid (Below w.heap.size w x2) := B1.out.trans (b2.mono B1.out.size)
  have KA0_2 : Hid (Blk x2 ga0 36 [.slice S0.seed.a S0.seed.n S0.seed.c, .int .i64 D0.num]) := KA0_1.out.later b2
  clear b2 B1 KA0_1
  by_cases hsum0 : (1048576 : Int) - (diSum S0 : Int) < 0
  · rw [if_pos hsum0]
    go_wp2
    go_ret
    exact ⟨rfl, B2.out⟩
  rw [if_neg hsum0]
  have HL0 : Hid (DiShort D0 1048576) := di_short_of HR0.out (by omega)
  have HLL0 : Hid (DiShort D0 4194304) := di_short_le HL0.out (by omega)
  have HRS0 : Hid (DiShort R0 1048576) := by rw [← HRD0.out]; exact rollD_short HL0.out
  have HRL0 : Hid (DiShort R0 4194304) := di_short_le HRS0.out (by omega)
  have HRS1 : Hid (R1.length ≤ 1048576) := by rw [← HRD1.out]; exact Nat.le_trans (rollL_le _) (by omega)
  have c0 := KA0_2.out.cell 0 rfl
  have c1 := KA0_2.out.cell 1 rfl
  go_wp2_with fail
  refine (toDice S0 D0 x2 (HR0.out.later B2.out) HLL0.out).mono ?_
  rintro e x3 ⟨Sp0, rfl, o, b3⟩
  clear c0 c1
  have L3 : Hid (x2.heap.size ≤ x3.heap.size) := b3.size
  have B3 : Hid (Below w.heap.size w x3) := B2.out.trans (b3.mono B2.out.size)
  have KA0_3 : Hid (Blk x3 ga0 36 [.slice S0.seed.a S0.seed.n S0.seed.c, .int .i64 D0.num]) := KA0_2.out.later b3
  clear b3 B2 KA0_2
  have Op0_3 : Hid (DiOwn x3 x2.heap.size x3.heap.size Sp0 D0) := o
  clear o
  go_wp2_with fail
  refine (DiT.specRoll Sp0 D0 x3 Op0_3.out.rd HLL0.out.seed).mono ?_
  rw [HRD0.out, HRD1.out]
  rintro e x4 ⟨Sw0, Sw1, pw0, qw0, pw1, qw1, rfl, o0, o1, z, b⟩
  have L4 : Hid (x3.heap.size ≤ x4.heap.size) := b.size
  have B4 : Hid (Below w.heap.size w x4) := B3.out.trans (b.mono B3.out.size)
  have KA0_4 : Hid (Blk x4 ga0 36 [.slice S0.seed.a S0.seed.n S0.seed.c, .int .i64 D0.num]) := KA0_3.out.later b
  have Op0_4 : Hid (DiOwn x4 x2.heap.size x3.heap.size Sp0 D0) := Op0_3.out.later b
  clear b B3 KA0_3 Op0_3
  have Ow0r_4 : Hid (DiOwn x4 pw0 qw0 Sw0 R0) := o0
  clear o0
  have Ow1r_4 : Hid (SOwn x4 pw1 qw1 Sw1 R1) := o1
  clear o1
  have Zw_ : Hid (x3.heap.size ≤ pw0 ∧ qw0 ≤ x4.heap.size ∧ x3.heap.size ≤ pw1 ∧ qw1 ≤ x4.heap.size ∧ (qw0 ≤ pw1 ∨ qw1 ≤ pw0)) := z
  clear z
  obtain ⟨x5, hx5⟩ : ∃ x5, x4.alloc (.cells #[.slice Sw0.seed.a Sw0.seed.n Sw0.seed.c, .int .i64 R0.num] 25) = x5 := ⟨_, rfl⟩
  have HW5 : Hid (x4.alloc (.cells #[.slice Sw0.seed.a Sw0.seed.n Sw0.seed.c, .int .i64 R0.num] 25) = x5) := hx5
  have b : Below x4.heap.size x4 x5 := by rw [← hx5]; exact (Below.refl _ _).alloc (Nat.le_refl _) _
  have KN0 : Blk x5 (x4.heap.size) 25 [.slice Sw0.seed.a Sw0.seed.n Sw0.seed.c, .int .i64 R0.num] := by
    have q := Blk.new (x4) 25 [.slice Sw0.seed.a Sw0.seed.n Sw0.seed.c, .int .i64 R0.num]
    rw [← hx5]; exact q
  have HSZ5 : Hid (x5.heap.size = x4.heap.size + 1) := by rw [← hx5]; show _ = _; simp
  clear hx5
  have L5 : Hid (x4.heap.size ≤ x5.heap.size) := b.size
  have B5 : Hid (Below w.heap.size w x5) := B4.out.trans (b.mono B4.out.size)
  have KA0_5 : Hid (Blk x5 ga0 36 [.slice S0.seed.a S0.seed.n S0.seed.c, .int .i64 D0.num]) := KA0_4.out.later b
  have Op0_5 : Hid (DiOwn x5 x2.heap.size x3.heap.size Sp0 D0) := Op0_4.out.later b
  have Ow0r_5 : Hid (DiOwn x5 pw0 qw0 Sw0 R0) := Ow0r_4.out.later b
  have Ow1r_5 : Hid (SOwn x5 pw1 qw1 Sw1 R1) := Ow1r_4.out.later b
  clear b B4 KA0_4 Op0_4 Ow0r_4 Ow1r_4
  unfold diV
  go_upto_region 6 with fail
  rw [HW5.out]
  obtain ⟨gw0, hg0⟩ : ∃ g, x4.heap.size = g := ⟨_, rfl⟩
  have Gw_ : Hid (x4.heap.size + 0 = gw0 ∧ x5.heap.size = x4.heap.size + 1) := ⟨by omega, HSZ5.out⟩
  rw [hg0] at KN0
  rw [hg0]
  clear HW5 HSZ5 hg0
  have Kw0_5 : Hid (Blk x5 gw0 25 [.slice Sw0.seed.a Sw0.seed.n Sw0.seed.c, .int .i64 R0.num]) := KN0
  clear KN0
  clear Op0_5
  have c0 := KA0_5.out.cell 0 rfl
  have c1 := KA0_5.out.cell 1 rfl
  go_wp2_with fail
  refine (toDice S0 D0 x5 (HR0.out.later B5.out) HLL0.out).mono ?_
  rintro e x6 ⟨Sx0, rfl, o, b6⟩
  clear c0 c1
  have L6 : Hid (x5.heap.size ≤ x6.heap.size) := b6.size
  have B6 : Hid (Below w.heap.size w x6) := B5.out.trans (b6.mono B5.out.size)
  have KA0_6 : Hid (Blk x6 ga0 36 [.slice S0.seed.a S0.seed.n S0.seed.c, .int .i64 D0.num]) := KA0_5.out.later b6
  have Ow0r_6 : Hid (DiOwn x6 pw0 qw0 Sw0 R0) := Ow0r_5.out.later b6
  have Ow1r_6 : Hid (SOwn x6 pw1 qw1 Sw1 R1) := Ow1r_5.out.later b6
  have Kw0_6 : Hid (Blk x6 gw0 25 [.slice Sw0.seed.a Sw0.seed.n Sw0.seed.c, .int .i64 R0.num]) := Kw0_5.out.later b6
  clear b6 B5 KA0_5 Ow0r_5 Ow1r_5 Kw0_5
  have Ox0_6 : Hid (DiOwn x6 x5.heap.size x6.heap.size Sx0 D0) := o
  clear o
  obtain ⟨x7, hx7⟩ : ∃ x7, x6.alloc (.cells #[.slice Sx0.seed.a Sx0.seed.n Sx0.seed.c, .int .i64 D0.num] 25) = x7 := ⟨_, rfl⟩
  have HW7 : Hid (x6.alloc (.cells #[.slice Sx0.seed.a Sx0.seed.n Sx0.seed.c, .int .i64 D0.num] 25) = x7) := hx7
  have b7 : Below x6.heap.size x6 x7 := by rw [← hx7]; exact (Below.refl _ _).alloc (Nat.le_refl _) _
  have KN : Blk x7 x6.heap.size 25 [.slice Sx0.seed.a Sx0.seed.n Sx0.seed.c, .int .i64 D0.num] := by rw [← hx7]; exact Blk.new x6 _ _
  have HSZ7 : Hid (x7.heap.size = x6.heap.size + 1) := by rw [← hx7]; show _ = _; simp
  clear hx7
  have L7 : Hid (x6.heap.size ≤ x7.heap.size) := b7.size
  have B7 : Hid (Below w.heap.size w x7) := B6.out.trans (b7.mono B6.out.size)
  have KA0_7 : Hid (Blk x7 ga0 36 [.slice S0.seed.a S0.seed.n S0.seed.c, .int .i64 D0.num]) := KA0_6.out.later b7
  have Ow0r_7 : Hid (DiOwn x7 pw0 qw0 Sw0 R0) := Ow0r_6.out.later b7
  have Ow1r_7 : Hid (SOwn x7 pw1 qw1 Sw1 R1) := Ow1r_6.out.later b7
  have Kw0_7 : Hid (Blk x7 gw0 25 [.slice Sw0.seed.a Sw0.seed.n Sw0.seed.c, .int .i64 R0.num]) := Kw0_6.out.later b7
  have Ox0_7 : Hid (DiOwn x7 x5.heap.size x6.heap.size Sx0 D0) := Ox0_6.out.later b7
  clear b7 B6 KA0_6 Ow0r_6 Ow1r_6 Kw0_6 Ox0_6
  unfold diV
  go_upto_region 7 with fail
  rw [HW7.out]
  obtain ⟨gx0, hgx0⟩ : ∃ gx0, x6.heap.size = gx0 := ⟨_, rfl⟩
  have Ggx0 : Hid (x6.heap.size = gx0 ∧ x7.heap.size = gx0 + 1) := ⟨hgx0, by rw [← hgx0]; exact HSZ7.out⟩
  rw [hgx0] at KN ⊢
  clear HW7 HSZ7 hgx0
  have Kx0_7 : Hid (Blk x7 gx0 25 [.slice Sx0.seed.a Sx0.seed.n Sx0.seed.c, .int .i64 D0.num]) := KN
  clear KN
  have cx0_0 := Kx0_7.out.cell 0 rfl
  have cx0_1 := Kx0_7.out.cell 1 rfl
  go_wp2_with fail
  refine (DiJ.implRoll Sx0 D0 x7 (HT.out.later B7.out) Ox0_7.out.rd HLL0.out.seed).mono ?_
  rw [HRD0.out, HRD1.out]
  rintro e x8 ⟨Sg0, Sg1, pg0, qg0, pg1, qg1, rfl, o0, o1, z, b⟩
  clear cx0_0 cx0_1
  have L8 : Hid (x7.heap.size ≤ x8.heap.size) := b.size
  have B8 : Hid (Below w.heap.size w x8) := B7.out.trans (b.mono B7.out.size)
  have KA0_8 : Hid (Blk x8 ga0 36 [.slice S0.seed.a S0.seed.n S0.seed.c, .int .i64 D0.num]) := KA0_7.out.later b
  have Ow0r_8 : Hid (DiOwn x8 pw0 qw0 Sw0 R0) := Ow0r_7.out.later b
  have Ow1r_8 : Hid (SOwn x8 pw1 qw1 Sw1 R1) := Ow1r_7.out.later b
  have Kw0_8 : Hid (Blk x8 gw0 25 [.slice Sw0.seed.a Sw0.seed.n Sw0.seed.c, .int .i64 R0.num]) := Kw0_7.out.later b
  have Ox0_8 : Hid (DiOwn x8 x5.heap.size x6.heap.size Sx0 D0) := Ox0_7.out.later b
  have Kx0_8 : Hid (Blk x8 gx0 25 [.slice Sx0.seed.a Sx0.seed.n Sx0.seed.c, .int .i64 D0.num]) := Kx0_7.out.later b
  clear b B7 KA0_7 Ow0r_7 Ow1r_7 Kw0_7 Ox0_7 Kx0_7
  have Og0r_8 : Hid (DiOwn x8 pg0 qg0 Sg0 R0) := o0
  clear o0
  have Og1r_8 : Hid (SOwn x8 pg1 qg1 Sg1 R1) := o1
  clear o1
  have Zg_ : Hid (x7.heap.size ≤ pg0 ∧ qg0 ≤ x8.heap.size ∧ x7.heap.size ≤ pg1 ∧ qg1 ≤ x8.heap.size ∧ (qg0 ≤ pg1 ∨ qg1 ≤ pg0)) := z
  clear z
  obtain ⟨x9, hx9⟩ : ∃ x9, x8.alloc (.cells #[.slice Sg0.seed.a Sg0.seed.n Sg0.seed.c, .int .i64 R0.num] 25) = x9 := ⟨_, rfl⟩
  have HW9 : Hid (x8.alloc (.cells #[.slice Sg0.seed.a Sg0.seed.n Sg0.seed.c, .int .i64 R0.num] 25) = x9) := hx9
  have b : Below x8.heap.size x8 x9 := by rw [← hx9]; exact (Below.refl _ _).alloc (Nat.le_refl _) _
  have KN0 : Blk x9 (x8.heap.size) 25 [.slice Sg0.seed.a Sg0.seed.n Sg0.seed.c, .int .i64 R0.num] := by
    have q := Blk.new (x8) 25 [.slice Sg0.seed.a Sg0.seed.n Sg0.seed.c, .int .i64 R0.num]
    rw [← hx9]; exact q
  have HSZ9 : Hid (x9.heap.size = x8.heap.size + 1) := by rw [← hx9]; show _ = _; simp
  clear hx9
  have L9 : Hid (x8.heap.size ≤ x9.heap.size) := b.size
  have B9 : Hid (Below w.heap.size w x9) := B8.out.trans (b.mono B8.out.size)
  have KA0_9 : Hid (Blk x9 ga0 36 [.slice S0.seed.a S0.seed.n S0.seed.c, .int .i64 D0.num]) := KA0_8.out.later b
  have Ow0r_9 : Hid (DiOwn x9 pw0 qw0 Sw0 R0) := Ow0r_8.out.later b
  have Ow1r_9 : Hid (SOwn x9 pw1 qw1 Sw1 R1) := Ow1r_8.out.later b
  have Kw0_9 : Hid (Blk x9 gw0 25 [.slice Sw0.seed.a Sw0.seed.n Sw0.seed.c, .int .i64 R0.num]) := Kw0_8.out.later b
  have Ox0_9 : Hid (DiOwn x9 x5.heap.size x6.heap.size Sx0 D0) := Ox0_8.out.later b
  have Kx0_9 : Hid (Blk x9 gx0 25 [.slice Sx0.seed.a Sx0.seed.n Sx0.seed.c, .int .i64 D0.num]) := Kx0_8.out.later b
  have Og0r_9 : Hid (DiOwn x9 pg0 qg0 Sg0 R0) := Og0r_8.out.later b
  have Og1r_9 : Hid (SOwn x9 pg1 qg1 Sg1 R1) := Og1r_8.out.later b
  clear b B8 KA0_8 Ow0r_8 Ow1r_8 Kw0_8 Ox0_8 Kx0_8 Og0r_8 Og1r_8
  unfold diV
  go_upto_region 8 with fail
  rw [HW9.out]
  obtain ⟨gg0, hg0⟩ : ∃ g, x8.heap.size = g := ⟨_, rfl⟩
  have Gg_ : Hid (x8.heap.size + 0 = gg0 ∧ x9.heap.size = x8.heap.size + 1) := ⟨by omega, HSZ9.out⟩
  rw [hg0] at KN0
  rw [hg0]
  clear HW9 HSZ9 hg0
  have Kg0_9 : Hid (Blk x9 gg0 25 [.slice Sg0.seed.a Sg0.seed.n Sg0.seed.c, .int .i64 R0.num]) := KN0
  clear KN0
  have ca0 := Kg0_9.out.cell 0 rfl
  have ca1 := Kg0_9.out.cell 1 rfl
  have cb0 := Kw0_9.out.cell 0 rfl
  have cb1 := Kw0_9.out.cell 1 rfl
  go_wp2_with fail
  refine (eqDice Sg0 Sw0 R0 x9 Og0r_9.out.rd Ow0r_9.out.rd HRL0.out).mono ?_
  rintro e x10 ⟨rfl, b10⟩
  clear ca0 ca1
  clear cb0 cb1
  have L10 : Hid (x9.heap.size ≤ x10.heap.size) := b10.size
  have B10 : Hid (Below w.heap.size w x10) := B9.out.trans (b10.mono B9.out.size)
  have KA0_10 : Hid (Blk x10 ga0 36 [.slice S0.seed.a S0.seed.n S0.seed.c, .int .i64 D0.num]) := KA0_9.out.later b10
  have Ow0r_10 : Hid (DiOwn x10 pw0 qw0 Sw0 R0) := Ow0r_9.out.later b10
  have Ow1r_10 : Hid (SOwn x10 pw1 qw1 Sw1 R1) := Ow1r_9.out.later b10
  have Kw0_10 : Hid (Blk x10 gw0 25 [.slice Sw0.seed.a Sw0.seed.n Sw0.seed.c, .int .i64 R0.num]) := Kw0_9.out.later b10
  have Ox0_10 : Hid (DiOwn x10 x5.heap.size x6.heap.size Sx0 D0) := Ox0_9.out.later b10
  have Kx0_10 : Hid (Blk x10 gx0 25 [.slice Sx0.seed.a Sx0.seed.n Sx0.seed.c, .int .i64 D0.num]) := Kx0_9.out.later b10
  have Og0r_10 : Hid (DiOwn x10 pg0 qg0 Sg0 R0) := Og0r_9.out.later b10
  have Og1r_10 : Hid (SOwn x10 pg1 qg1 Sg1 R1) := Og1r_9.out.later b10
  have Kg0_10 : Hid (Blk x10 gg0 25 [.slice Sg0.seed.a Sg0.seed.n Sg0.seed.c, .int .i64 R0.num]) := Kg0_9.out.later b10
  clear b10 B9 KA0_9 Ow0r_9 Ow1r_9 Kw0_9 Ox0_9 Kx0_9 Og0r_9 Og1r_9 Kg0_9
  go_wp2_with fail
  refine (eqB Sg1 Sw1 R1 R1 x10 Og1r_10.out.rd Ow1r_10.out.rd (by have := HRS1.out; omega) (by have := HRS1.out; omega)).mono ?_
  rw [decide_eq_true (show R1 = R1 from rfl)]
  rintro e x11 ⟨rfl, b11⟩
  have L11 : Hid (x10.heap.size ≤ x11.heap.size) := b11.size
  have B11 : Hid (Below w.heap.size w x11) := B10.out.trans (b11.mono B10.out.size)
  have KA0_11 : Hid (Blk x11 ga0 36 [.slice S0.seed.a S0.seed.n S0.seed.c, .int .i64 D0.num]) := KA0_10.out.later b11
  have Ow0r_11 : Hid (DiOwn x11 pw0 qw0 Sw0 R0) := Ow0r_10.out.later b11
  have Ow1r_11 : Hid (SOwn x11 pw1 qw1 Sw1 R1) := Ow1r_10.out.later b11
  have Kw0_11 : Hid (Blk x11 gw0 25 [.slice Sw0.seed.a Sw0.seed.n Sw0.seed.c, .int .i64 R0.num]) := Kw0_10.out.later b11
  have Ox0_11 : Hid (DiOwn x11 x5.heap.size x6.heap.size Sx0 D0) := Ox0_10.out.later b11
  have Kx0_11 : Hid (Blk x11 gx0 25 [.slice Sx0.seed.a Sx0.seed.n Sx0.seed.c, .int .i64 D0.num]) := Kx0_10.out.later b11
  have Og0r_11 : Hid (DiOwn x11 pg0 qg0 Sg0 R0) := Og0r_10.out.later b11
  have Og1r_11 : Hid (SOwn x11 pg1 qg1 Sg1 R1) := Og1r_10.out.later b11
  have Kg0_11 : Hid (Blk x11 gg0 25 [.slice Sg0.seed.a Sg0.seed.n Sg0.seed.c, .int .i64 R0.num]) := Kg0_10.out.later b11
  clear b11 B10 KA0_10 Ow0r_10 Ow1r_10 Kw0_10 Ox0_10 Kx0_10 Og0r_10 Og1r_10 Kg0_10
  go_upto_region 10 with fail
  go_cut [46] from 42 to 45 (fun sv wx => sv = .bool false ∧ Below x11.heap.size x11 wx)
  case first =>
    rename_i J K' hRJ hMet
    generalize hA : Act.mk _ _ = A
    have a1' : A.eval (.tmp 1) = .pointer (some ⟨ga0, 0, none⟩) := by rw [← hA]; rfl
    have a6' : A.eval (.tmp 6) = .pointer (some ⟨gx0, 0, none⟩) := by rw [← hA]; rfl
    have asz : A.tmps.size = 112 := by rw [← hA]; rfl
    have hKA : ∀ wx, Below x11.heap.size x11 wx → Blk wx ga0 36 [.slice S0.seed.a S0.seed.n S0.seed.c, .int .i64 D0.num] := fun wx hb => KA0_11.out.later hb
    have hKB : ∀ wx, Below x11.heap.size x11 wx → Blk wx gx0 25 [.slice Sx0.seed.a Sx0.seed.n Sx0.seed.c, .int .i64 D0.num] := fun wx hb => Kx0_11.out.later hb
    have hRS : ∀ wx, Below x11.heap.size x11 wx → DiRd wx S0 D0 := fun wx hb => HR0.out.later (B11.out.trans (hb.mono B11.out.size))
    have hRT : ∀ wx, Below x11.heap.size x11 wx → DiRd wx Sx0 D0 := fun wx hb => (Ox0_11.out.later hb).rd
    refine region_each (by kernel_rfl) [42, 43, 44, 45] 4 (fun i => [42, 43, 44, 45].getD i 0) (fun _ => 0)
      (fun i gB v wx => match i with
        | 0 => v = .agg #[.slice Sx0.seed.a Sx0.seed.n Sx0.seed.c, .int .i64 D0.num]
        | 1 => v = .agg #[.slice S0.seed.a S0.seed.n S0.seed.c, .int .i64 D0.num]
        | 2 => ∃ S3, v = diV D0 S3 ∧ DiRd wx S3 D0
        | 3 => v = .bool true
        | _ => False) (fun wx => Below x11.heap.size x11 wx) (by kernel_rfl) (Below.refl _ _).drew ?_ ?_ ?_
    · intro i gB v wx wy hi hF hb _
      match i, hi with
      | 0, _ => exact hF
      | 1, _ => exact hF
      | 2, _ => obtain ⟨S3, h0, h1⟩ := hF; exact ⟨S3, h0, h1.later hb⟩
      | 3, _ => exact hF
    · intro i hi t ρ wx hB hp hd
      match i, hi with
      | 0, _ =>
        have e6 : (fr [42, 43, 44, 45] A t).eval (.tmp 6) = .pointer (some ⟨gx0, 0, none⟩) := (fr_eval_old _ _ _ 6 rfl).trans a6'
        have hc0 := (hKB wx hB).cell 0 rfl
        have hc1 := (hKB wx hB).cell 1 rfl
        refine op_run (v := .agg #[.slice Sx0.seed.a Sx0.seed.n Sx0.seed.c, .int .i64 D0.num]) (w' := wx) rfl rfl ?_ ?_
        · clear hp hd; have ec : ∀ v, (fr [42, 43, 44, 45] A t).eval (.const v) = v := fun _ => rfl; generalize (fr [42, 43, 44, 45] A t).eval = ev at ec e6 ⊢; go_simp
        · exact ⟨_, 0, rfl, hB, Below.refl _ _, rfl, .inl rfl⟩
      | 1, _ =>
        have e1 : (fr [42, 43, 44, 45] A t).eval (.tmp 1) = .pointer (some ⟨ga0, 0, none⟩) := (fr_eval_old _ _ _ 1 rfl).trans a1'
        have hc0 := (hKA wx hB).cell 0 rfl
        have hc1 := (hKA wx hB).cell 1 rfl
        refine op_run (v := .agg #[.slice S0.seed.a S0.seed.n S0.seed.c, .int .i64 D0.num]) (w' := wx) rfl rfl ?_ ?_
        · clear hp hd; have ec : ∀ v, (fr [42, 43, 44, 45] A t).eval (.const v) = v := fun _ => rfl; generalize (fr [42, 43, 44, 45] A t).eval = ev at ec e1 ⊢; go_simp
        · exact ⟨_, 0, rfl, hB, Below.refl _ _, rfl, .inl rfl⟩
      | 2, _ =>
        have e43 : (fr [42, 43, 44, 45] A t).eval (.tmp 43) = .agg #[.slice S0.seed.a S0.seed.n S0.seed.c, .int .i64 D0.num] := (fr_eval _ _ _ 43 rfl (by rw [asz]; decide)).trans (hp 1 (pre_mem (by kernel_rfl)))
        refine op_call (f := 21) (args := #[.agg #[.slice S0.seed.a S0.seed.n S0.seed.c, .int .i64 D0.num]]) rfl rfl ?_ (toDice S0 D0 wx (hRS wx hB) HLL0.out) ?_
        · have ef : (fr [42, 43, 44, 45] A t).eval (.func 21) = .func (.func 21) #[] #[] := rfl; clear hp hd; have ec : ∀ v, (fr [42, 43, 44, 45] A t).eval (.const v) = v := fun _ => rfl; generalize (fr [42, 43, 44, 45] A t).eval = ev at ec e43 ef ⊢; go_simp
        · rintro e wy ⟨S3, rfl, o3, b1⟩
          exact ⟨_, rfl, _, wx.heap.size, rfl, hB.trans (b1.mono hB.size), b1, ⟨S3, rfl, o3.rd⟩, .inl rfl⟩
      | 3, _ =>
        have e42 : (fr [42, 43, 44, 45] A t).eval (.tmp 42) = .agg #[.slice Sx0.seed.a Sx0.seed.n Sx0.seed.c, .int .i64 D0.num] := (fr_eval _ _ _ 42 rfl (by rw [asz]; decide)).trans (hp 0 (pre_mem (by kernel_rfl)))
        obtain ⟨S32, hv2, q2_0⟩ := hp 2 (pre_mem (by kernel_rfl))
        have e44 : (fr [42, 43, 44, 45] A t).eval (.tmp 44) = diV D0 S32 := (fr_eval _ _ _ 44 rfl (by rw [asz]; decide)).trans hv2
        refine op_call (f := 22) (args := #[.agg #[.slice Sx0.seed.a Sx0.seed.n Sx0.seed.c, .int .i64 D0.num], diV D0 S32]) rfl rfl ?_ (eqDice Sx0 S32 D0 wx (hRT wx hB) q2_0 HLL0.out) ?_
        · have ef : (fr [42, 43, 44, 45] A t).eval (.func 22) = .func (.func 22) #[] #[] := rfl; clear hp hd q2_0; have ec : ∀ v, (fr [42, 43, 44, 45] A t).eval (.const v) = v := fun _ => rfl; generalize (fr [42, 43, 44, 45] A t).eval = ev at ec e42 e44 ef ⊢; go_simp
        · rintro e wy ⟨rfl, b1⟩
          exact ⟨_, rfl, _, wx.heap.size, rfl, hB.trans (b1.mono hB.size), b1, rfl, .inl rfl⟩
    · intro t ρ wx hB hF hne
      have hv3 := hF 3 (by decide)
      have e45 : (fr [42, 43, 44, 45] A t).eval (.tmp 45) = .bool true := (fr_eval _ _ _ 45 rfl (by rw [asz]; decide)).trans hv3
      clear hne
      refine op_wp rfl rfl ?_
      generalize hE : (fr [42, 43, 44, 45] A t).eval = ev at e45
      unfold Oper.wp
      rw [hE]
      clear hv3
      go_simp
      refine hMet _ _ (Met.intro (hRJ _ _ ⟨t 42, t 43, t 44, t 45, _, ⟨rfl, hB⟩, ?_⟩))
      rw [← hA]; rfl
  case rest =>
  obtain ⟨x12, hq12⟩ : ∃ x12, x12 = wc := ⟨_, rfl⟩
  subst hq12
  obtain ⟨rfl, b12⟩ := hcut
  have L12 : Hid (x11.heap.size ≤ x12.heap.size) := b12.size
  have B12 : Hid (Below w.heap.size w x12) := B11.out.trans (b12.mono B11.out.size)
  have KA0_12 : Hid (Blk x12 ga0 36 [.slice S0.seed.a S0.seed.n S0.seed.c, .int .i64 D0.num]) := KA0_11.out.later b12
  have Ow0r_12 : Hid (DiOwn x12 pw0 qw0 Sw0 R0) := Ow0r_11.out.later b12
  have Ow1r_12 : Hid (SOwn x12 pw1 qw1 Sw1 R1) := Ow1r_11.out.later b12
  have Kw0_12 : Hid (Blk x12 gw0 25 [.slice Sw0.seed.a Sw0.seed.n Sw0.seed.c, .int .i64 R0.num]) := Kw0_11.out.later b12
  have Ox0_12 : Hid (DiOwn x12 x5.heap.size x6.heap.size Sx0 D0) := Ox0_11.out.later b12
  have Kx0_12 : Hid (Blk x12 gx0 25 [.slice Sx0.seed.a Sx0.seed.n Sx0.seed.c, .int .i64 D0.num]) := Kx0_11.out.later b12
  have Og0r_12 : Hid (DiOwn x12 pg0 qg0 Sg0 R0) := Og0r_11.out.later b12
  have Og1r_12 : Hid (SOwn x12 pg1 qg1 Sg1 R1) := Og1r_11.out.later b12
  have Kg0_12 : Hid (Blk x12 gg0 25 [.slice Sg0.seed.a Sg0.seed.n Sg0.seed.c, .int .i64 R0.num]) := Kg0_11.out.later b12
  clear b12 B11 KA0_11 Ow0r_11 Ow1r_11 Kw0_11 Ox0_11 Kx0_11 Og0r_11 Og1r_11 Kg0_11
  have hks0 : (diSum Sx0 : Int) ≤ 1048576 := by have := di_sum_eq HR0.out Ox0_12.out.rd; omega
  have ca0 := Kx0_12.out.cell 0 rfl
  have ca1 := Kx0_12.out.cell 1 rfl
  go_wp2_with fail
  refine (markDice Sx0 D0 (1 : Int) x12 x5.heap.size x6.heap.size Ox0_12.out (by have := L1.out; have := Gga.out; have := L2.out; have := L3.out; have := L4.out; have := Zw_.out; have := L5.out; have := Gw_.out; have := L6.out; have := L7.out; have := Ggx0.out; have := L8.out; have := Zg_.out; have := L9.out; have := Gg_.out; have := L10.out; have := L11.out; have := L12.out; omega) (by omega) (by omega)).mono ?_
  rintro e x13 ⟨rfl, _, k13⟩
  clear ca0 ca1
  have L13 : Hid (x12.heap.size ≤ x13.heap.size) := k13.size
  have B13 : Hid (Below w.heap.size w x13) := B12.out.trans (k13.below (by have := L1.out; have := Gga.out; have := L2.out; have := L3.out; have := L4.out; have := Zw_.out; have := L5.out; have := Gw_.out; have := L6.out; have := L7.out; have := Ggx0.out; have := L8.out; have := Zg_.out; have := L9.out; have := Gg_.out; have := L10.out; have := L11.out; have := L12.out; have := L13.out; omega) B12.out.size)
  have KA0_13 : Hid (Blk x13 ga0 36 [.slice S0.seed.a S0.seed.n S0.seed.c, .int .i64 D0.num]) := KA0_12.out.keep (k13.block _ KA0_12.out.lt (by have := L1.out; have := Gga.out; have := L2.out; have := L3.out; have := L4.out; have := Zw_.out; have := L5.out; have := Gw_.out; have := L6.out; have := L7.out; have := Ggx0.out; have := L8.out; have := Zg_.out; have := L9.out; have := Gg_.out; have := L10.out; have := L11.out; have := L12.out; have := L13.out; omega))
  have Ow0r_13 : Hid (DiOwn x13 pw0 qw0 Sw0 R0) := Ow0r_12.out.carry k13 (by have := L1.out; have := Gga.out; have := L2.out; have := L3.out; have := L4.out; have := Zw_.out; have := L5.out; have := Gw_.out; have := L6.out; have := L7.out; have := Ggx0.out; have := L8.out; have := Zg_.out; have := L9.out; have := Gg_.out; have := L10.out; have := L11.out; have := L12.out; have := L13.out; omega)
  have Ow1r_13 : Hid (SOwn x13 pw1 qw1 Sw1 R1) := Ow1r_12.out.carry k13 (by have := L1.out; have := Gga.out; have := L2.out; have := L3.out; have := L4.out; have := Zw_.out; have := L5.out; have := Gw_.out; have := L6.out; have := L7.out; have := Ggx0.out; have := L8.out; have := Zg_.out; have := L9.out; have := Gg_.out; have := L10.out; have := L11.out; have := L12.out; have := L13.out; omega)
  have Kw0_13 : Hid (Blk x13 gw0 25 [.slice Sw0.seed.a Sw0.seed.n Sw0.seed.c, .int .i64 R0.num]) := Kw0_12.out.keep (k13.block _ Kw0_12.out.lt (by have := L1.out; have := Gga.out; have := L2.out; have := L3.out; have := L4.out; have := Zw_.out; have := L5.out; have := Gw_.out; have := L6.out; have := L7.out; have := Ggx0.out; have := L8.out; have := Zg_.out; have := L9.out; have := Gg_.out; have := L10.out; have := L11.out; have := L12.out; have := L13.out; omega))
  have Og0r_13 : Hid (DiOwn x13 pg0 qg0 Sg0 R0) := Og0r_12.out.carry k13 (by have := L1.out; have := Gga.out; have := L2.out; have := L3.out; have := L4.out; have := Zw_.out; have := L5.out; have := Gw_.out; have := L6.out; have := L7.out; have := Ggx0.out; have := L8.out; have := Zg_.out; have := L9.out; have := Gg_.out; have := L10.out; have := L11.out; have := L12.out; have := L13.out; omega)
  have Og1r_13 : Hid (SOwn x13 pg1 qg1 Sg1 R1) := Og1r_12.out.carry k13 (by have := L1.out; have := Gga.out; have := L2.out; have := L3.out; have := L4.out; have := Zw_.out; have := L5.out; have := Gw_.out; have := L6.out; have := L7.out; have := Ggx0.out; have := L8.out; have := Zg_.out; have := L9.out; have := Gg_.out; have := L10.out; have := L11.out; have := L12.out; have := L13.out; omega)
  have Kg0_13 : Hid (Blk x13 gg0 25 [.slice Sg0.seed.a Sg0.seed.n Sg0.seed.c, .int .i64 R0.num]) := Kg0_12.out.keep (k13.block _ Kg0_12.out.lt (by have := L1.out; have := Gga.out; have := L2.out; have := L3.out; have := L4.out; have := Zw_.out; have := L5.out; have := Gw_.out; have := L6.out; have := L7.out; have := Ggx0.out; have := L8.out; have := Zg_.out; have := L9.out; have := Gg_.out; have := L10.out; have := L11.out; have := L12.out; have := L13.out; omega))
  clear k13 B12 KA0_12 Ow0r_12 Ow1r_12 Kw0_12 Ox0_12 Kx0_12 Og0r_12 Og1r_12 Kg0_12
  have hk0 : ¬ (((1 : Int) + (diSum Sx0 : Int)) < 0) := by omega
  have ca0 := Kg0_13.out.cell 0 rfl
  have ca1 := Kg0_13.out.cell 1 rfl
  have cb0 := Kw0_13.out.cell 0 rfl
  have cb1 := Kw0_13.out.cell 1 rfl
  go_wp2_with fail
  refine (eqDice Sg0 Sw0 R0 x13 Og0r_13.out.rd Ow0r_13.out.rd HRL0.out).mono ?_
  rintro e x14 ⟨rfl, b14⟩
  clear ca0 ca1
  clear cb0 cb1
  have L14 : Hid (x13.heap.size ≤ x14.heap.size) := b14.size
  have B14 : Hid (Below w.heap.size w x14) := B13.out.trans (b14.mono B13.out.size)
  have KA0_14 : Hid (Blk x14 ga0 36 [.slice S0.seed.a S0.seed.n S0.seed.c, .int .i64 D0.num]) := KA0_13.out.later b14
  have Ow0r_14 : Hid (DiOwn x14 pw0 qw0 Sw0 R0) := Ow0r_13.out.later b14
  have Ow1r_14 : Hid (SOwn x14 pw1 qw1 Sw1 R1) := Ow1r_13.out.later b14
  have Kw0_14 : Hid (Blk x14 gw0 25 [.slice Sw0.seed.a Sw0.seed.n Sw0.seed.c, .int .i64 R0.num]) := Kw0_13.out.later b14
  have Og0r_14 : Hid (DiOwn x14 pg0 qg0 Sg0 R0) := Og0r_13.out.later b14
  have Og1r_14 : Hid (SOwn x14 pg1 qg1 Sg1 R1) := Og1r_13.out.later b14
  have Kg0_14 : Hid (Blk x14 gg0 25 [.slice Sg0.seed.a Sg0.seed.n Sg0.seed.c, .int .i64 R0.num]) := Kg0_13.out.later b14
  clear b14 B13 KA0_13 Ow0r_13 Ow1r_13 Kw0_13 Og0r_13 Og1r_13 Kg0_13
  go_wp2_with fail
  refine (eqB Sg1 Sw1 R1 R1 x14 Og1r_14.out.rd Ow1r_14.out.rd (by have := HRS1.out; omega) (by have := HRS1.out; omega)).mono ?_
  rw [decide_eq_true (show R1 = R1 from rfl)]
  rintro e x15 ⟨rfl, b15⟩
  have L15 : Hid (x14.heap.size ≤ x15.heap.size) := b15.size
  have B15 : Hid (Below w.heap.size w x15) := B14.out.trans (b15.mono B14.out.size)
  have KA0_15 : Hid (Blk x15 ga0 36 [.slice S0.seed.a S0.seed.n S0.seed.c, .int .i64 D0.num]) := KA0_14.out.later b15
  have Ow0r_15 : Hid (DiOwn x15 pw0 qw0 Sw0 R0) := Ow0r_14.out.later b15
  have Ow1r_15 : Hid (SOwn x15 pw1 qw1 Sw1 R1) := Ow1r_14.out.later b15
  have Kw0_15 : Hid (Blk x15 gw0 25 [.slice Sw0.seed.a Sw0.seed.n Sw0.seed.c, .int .i64 R0.num]) := Kw0_14.out.later b15
  have Og0r_15 : Hid (DiOwn x15 pg0 qg0 Sg0 R0) := Og0r_14.out.later b15
  have Og1r_15 : Hid (SOwn x15 pg1 qg1 Sg1 R1) := Og1r_14.out.later b15
  have Kg0_15 : Hid (Blk x15 gg0 25 [.slice Sg0.seed.a Sg0.seed.n Sg0.seed.c, .int .i64 R0.num]) := Kg0_14.out.later b15
  clear b15 B14 KA0_14 Ow0r_14 Ow1r_14 Kw0_14 Og0r_14 Og1r_14 Kg0_14
  have hms0 : (diSum Sg0 : Int) ≤ 1048576 := by have := di_sum_le Og0r_15.out.rd HRS0.out; omega
  have ca0 := Kg0_15.out.cell 0 rfl
  have ca1 := Kg0_15.out.cell 1 rfl
  go_wp2_with fail
  refine (markDice Sg0 R0 (1 : Int) x15 pg0 qg0 Og0r_15.out (by have := L1.out; have := Gga.out; have := L2.out; have := L3.out; have := L4.out; have := Zw_.out; have := L5.out; have := Gw_.out; have := L6.out; have := L7.out; have := Ggx0.out; have := L8.out; have := Zg_.out; have := L9.out; have := Gg_.out; have := L10.out; have := L11.out; have := L12.out; have := L13.out; have := L14.out; have := L15.out; omega) (by omega) (by omega)).mono ?_
  rintro e x16 ⟨rfl, og, k16⟩
  clear ca0 ca1
  have L16 : Hid (x15.heap.size ≤ x16.heap.size) := k16.size
  have B16 : Hid (Below w.heap.size w x16) := B15.out.trans (k16.below (by have := L1.out; have := Gga.out; have := L2.out; have := L3.out; have := L4.out; have := Zw_.out; have := L5.out; have := Gw_.out; have := L6.out; have := L7.out; have := Ggx0.out; have := L8.out; have := Zg_.out; have := L9.out; have := Gg_.out; have := L10.out; have := L11.out; have := L12.out; have := L13.out; have := L14.out; have := L15.out; have := L16.out; omega) B15.out.size)
  have KA0_16 : Hid (Blk x16 ga0 36 [.slice S0.seed.a S0.seed.n S0.seed.c, .int .i64 D0.num]) := KA0_15.out.keep (k16.block _ KA0_15.out.lt (by have := L1.out; have := Gga.out; have := L2.out; have := L3.out; have := L4.out; have := Zw_.out; have := L5.out; have := Gw_.out; have := L6.out; have := L7.out; have := Ggx0.out; have := L8.out; have := Zg_.out; have := L9.out; have := Gg_.out; have := L10.out; have := L11.out; have := L12.out; have := L13.out; have := L14.out; have := L15.out; have := L16.out; omega))
  have Ow0r_16 : Hid (DiOwn x16 pw0 qw0 Sw0 R0) := Ow0r_15.out.carry k16 (by have := L1.out; have := Gga.out; have := L2.out; have := L3.out; have := L4.out; have := Zw_.out; have := L5.out; have := Gw_.out; have := L6.out; have := L7.out; have := Ggx0.out; have := L8.out; have := Zg_.out; have := L9.out; have := Gg_.out; have := L10.out; have := L11.out; have := L12.out; have := L13.out; have := L14.out; have := L15.out; have := L16.out; omega)
  have Ow1r_16 : Hid (SOwn x16 pw1 qw1 Sw1 R1) := Ow1r_15.out.carry k16 (by have := L1.out; have := Gga.out; have := L2.out; have := L3.out; have := L4.out; have := Zw_.out; have := L5.out; have := Gw_.out; have := L6.out; have := L7.out; have := Ggx0.out; have := L8.out; have := Zg_.out; have := L9.out; have := Gg_.out; have := L10.out; have := L11.out; have := L12.out; have := L13.out; have := L14.out; have := L15.out; have := L16.out; omega)
  have Kw0_16 : Hid (Blk x16 gw0 25 [.slice Sw0.seed.a Sw0.seed.n Sw0.seed.c, .int .i64 R0.num]) := Kw0_15.out.keep (k16.block _ Kw0_15.out.lt (by have := L1.out; have := Gga.out; have := L2.out; have := L3.out; have := L4.out; have := Zw_.out; have := L5.out; have := Gw_.out; have := L6.out; have := L7.out; have := Ggx0.out; have := L8.out; have := Zg_.out; have := L9.out; have := Gg_.out; have := L10.out; have := L11.out; have := L12.out; have := L13.out; have := L14.out; have := L15.out; have := L16.out; omega))
  have Og1r_16 : Hid (SOwn x16 pg1 qg1 Sg1 R1) := Og1r_15.out.carry k16 (by have := L1.out; have := Gga.out; have := L2.out; have := L3.out; have := L4.out; have := Zw_.out; have := L5.out; have := Gw_.out; have := L6.out; have := L7.out; have := Ggx0.out; have := L8.out; have := Zg_.out; have := L9.out; have := Gg_.out; have := L10.out; have := L11.out; have := L12.out; have := L13.out; have := L14.out; have := L15.out; have := L16.out; omega)
  have Kg0_16 : Hid (Blk x16 gg0 25 [.slice Sg0.seed.a Sg0.seed.n Sg0.seed.c, .int .i64 R0.num]) := Kg0_15.out.keep (k16.block _ Kg0_15.out.lt (by have := L1.out; have := Gga.out; have := L2.out; have := L3.out; have := L4.out; have := Zw_.out; have := L5.out; have := Gw_.out; have := L6.out; have := L7.out; have := Ggx0.out; have := L8.out; have := Zg_.out; have := L9.out; have := Gg_.out; have := L10.out; have := L11.out; have := L12.out; have := L13.out; have := L14.out; have := L15.out; have := L16.out; omega))
  clear k16 B15 KA0_15 Ow0r_15 Ow1r_15 Kw0_15 Og0r_15 Og1r_15 Kg0_15
  have Og0r_16 : Hid (DiOwn x16 pg0 qg0 Sg0 (diMarks (1 : Int) Sg0 R0)) := og
  clear og
  have hms1 : (Sg1.n : Int) ≤ 1048576 := by have := Og1r_16.out.len; have := HRS1.out; omega
  go_wp2_with fail
  refine (markB Sg1 R1 ((1 : Int) + (diSum Sg0 : Int)) x16 pg1 qg1 Og1r_16.out (by have := HRS1.out; omega) (by omega) (by omega)).mono ?_
  rintro e x17 ⟨rfl, og, k17, _⟩
  have L17 : Hid (x16.heap.size ≤ x17.heap.size) := k17.size
  have B17 : Hid (Below w.heap.size w x17) := B16.out.trans (k17.below (by have := L1.out; have := Gga.out; have := L2.out; have := L3.out; have := L4.out; have := Zw_.out; have := L5.out; have := Gw_.out; have := L6.out; have := L7.out; have := Ggx0.out; have := L8.out; have := Zg_.out; have := L9.out; have := Gg_.out; have := L10.out; have := L11.out; have := L12.out; have := L13.out; have := L14.out; have := L15.out; have := L16.out; have := L17.out; omega) B16.out.size)
  have KA0_17 : Hid (Blk x17 ga0 36 [.slice S0.seed.a S0.seed.n S0.seed.c, .int .i64 D0.num]) := KA0_16.out.keep (k17.block _ KA0_16.out.lt (by have := L1.out; have := Gga.out; have := L2.out; have := L3.out; have := L4.out; have := Zw_.out; have := L5.out; have := Gw_.out; have := L6.out; have := L7.out; have := Ggx0.out; have := L8.out; have := Zg_.out; have := L9.out; have := Gg_.out; have := L10.out; have := L11.out; have := L12.out; have := L13.out; have := L14.out; have := L15.out; have := L16.out; have := L17.out; omega))
  have Ow0r_17 : Hid (DiOwn x17 pw0 qw0 Sw0 R0) := Ow0r_16.out.carry k17 (by have := L1.out; have := Gga.out; have := L2.out; have := L3.out; have := L4.out; have := Zw_.out; have := L5.out; have := Gw_.out; have := L6.out; have := L7.out; have := Ggx0.out; have := L8.out; have := Zg_.out; have := L9.out; have := Gg_.out; have := L10.out; have := L11.out; have := L12.out; have := L13.out; have := L14.out; have := L15.out; have := L16.out; have := L17.out; omega)
  have Ow1r_17 : Hid (SOwn x17 pw1 qw1 Sw1 R1) := Ow1r_16.out.carry k17 (by have := L1.out; have := Gga.out; have := L2.out; have := L3.out; have := L4.out; have := Zw_.out; have := L5.out; have := Gw_.out; have := L6.out; have := L7.out; have := Ggx0.out; have := L8.out; have := Zg_.out; have := L9.out; have := Gg_.out; have := L10.out; have := L11.out; have := L12.out; have := L13.out; have := L14.out; have := L15.out; have := L16.out; have := L17.out; omega)
  have Kw0_17 : Hid (Blk x17 gw0 25 [.slice Sw0.seed.a Sw0.seed.n Sw0.seed.c, .int .i64 R0.num]) := Kw0_16.out.keep (k17.block _ Kw0_16.out.lt (by have := L1.out; have := Gga.out; have := L2.out; have := L3.out; have := L4.out; have := Zw_.out; have := L5.out; have := Gw_.out; have := L6.out; have := L7.out; have := Ggx0.out; have := L8.out; have := Zg_.out; have := L9.out; have := Gg_.out; have := L10.out; have := L11.out; have := L12.out; have := L13.out; have := L14.out; have := L15.out; have := L16.out; have := L17.out; omega))
  have Kg0_17 : Hid (Blk x17 gg0 25 [.slice Sg0.seed.a Sg0.seed.n Sg0.seed.c, .int .i64 R0.num]) := Kg0_16.out.keep (k17.block _ Kg0_16.out.lt (by have := L1.out; have := Gga.out; have := L2.out; have := L3.out; have := L4.out; have := Zw_.out; have := L5.out; have := Gw_.out; have := L6.out; have := L7.out; have := Ggx0.out; have := L8.out; have := Zg_.out; have := L9.out; have := Gg_.out; have := L10.out; have := L11.out; have := L12.out; have := L13.out; have := L14.out; have := L15.out; have := L16.out; have := L17.out; omega))
  have Og0r_17 : Hid (DiOwn x17 pg0 qg0 Sg0 (diMarks (1 : Int) Sg0 R0)) := Og0r_16.out.carry k17 (by have := L1.out; have := Gga.out; have := L2.out; have := L3.out; have := L4.out; have := Zw_.out; have := L5.out; have := Gw_.out; have := L6.out; have := L7.out; have := Ggx0.out; have := L8.out; have := Zg_.out; have := L9.out; have := Gg_.out; have := L10.out; have := L11.out; have := L12.out; have := L13.out; have := L14.out; have := L15.out; have := L16.out; have := L17.out; omega)
  clear k17 B16 KA0_16 Ow0r_16 Ow1r_16 Kw0_16 Og1r_16 Kg0_16 Og0r_16
  have Og1r_17 : Hid (SOwn x17 pg1 qg1 Sg1 (marks ((1 : Int) + (diSum Sg0 : Int)) Sg1.n)) := og
  clear og
  have hmm : ((((1 : Int) + (diSum Sg0 : Int)) + (Sg1.n : Int)) != (((1 : Int) + (diSum Sg0 : Int)) + (Sg1.n : Int))) = false := by simp
  have ca0 := Kg0_17.out.cell 0 rfl
  have ca1 := Kg0_17.out.cell 1 rfl
  go_wp2_with fail
  refine (heldDice Sg0 R0 (1 : Int) x17 Og0r_17.out.rd (by omega) (by omega)).mono ?_
  rintro e x18 ⟨rfl, b18⟩
  clear ca0 ca1
  have L18 : Hid (x17.heap.size ≤ x18.heap.size) := b18.size
  have B18 : Hid (Below w.heap.size w x18) := B17.out.trans (b18.mono B17.out.size)
  have KA0_18 : Hid (Blk x18 ga0 36 [.slice S0.seed.a S0.seed.n S0.seed.c, .int .i64 D0.num]) := KA0_17.out.later b18
  have Ow0r_18 : Hid (DiOwn x18 pw0 qw0 Sw0 R0) := Ow0r_17.out.later b18
  have Ow1r_18 : Hid (SOwn x18 pw1 qw1 Sw1 R1) := Ow1r_17.out.later b18
  have Kw0_18 : Hid (Blk x18 gw0 25 [.slice Sw0.seed.a Sw0.seed.n Sw0.seed.c, .int .i64 R0.num]) := Kw0_17.out.later b18
  have Kg0_18 : Hid (Blk x18 gg0 25 [.slice Sg0.seed.a Sg0.seed.n Sg0.seed.c, .int .i64 R0.num]) := Kg0_17.out.later b18
  have Og0r_18 : Hid (DiOwn x18 pg0 qg0 Sg0 (diMarks (1 : Int) Sg0 R0)) := Og0r_17.out.later b18
  have Og1r_18 : Hid (SOwn x18 pg1 qg1 Sg1 (marks ((1 : Int) + (diSum Sg0 : Int)) Sg1.n)) := Og1r_17.out.later b18
  clear b18 B17 KA0_17 Ow0r_17 Ow1r_17 Kw0_17 Kg0_17 Og0r_17 Og1r_17
  have hq18_0 : ¬ ((1 : Int) + (diSum Sg0 : Int) < 0) := by omega
  go_wp2_with fail
  refine (heldB Sg1 ((1 : Int) + (diSum Sg0 : Int)) x18 Og1r_18.out.rd (by omega) (by omega) (by omega)).mono ?_
  rintro e xz ⟨rfl, rfl⟩
  have hq18_1 : ¬ (((1 : Int) + (diSum Sg0 : Int)) + (Sg1.n : Int) < 0) := by omega
  have c0 := KA0_18.out.cell 0 rfl
  have c1 := KA0_18.out.cell 1 rfl
  go_wp2_with fail
  refine (toDice S0 D0 x18 (HR0.out.later B18.out) HLL0.out).mono ?_
  rintro e x19 ⟨Sy0, rfl, o, b19⟩
  clear c0 c1
  have L19 : Hid (x18.heap.size ≤ x19.heap.size) := b19.size
  have B19 : Hid (Below w.heap.size w x19) := B18.out.trans (b19.mono B18.out.size)
  have KA0_19 : Hid (Blk x19 ga0 36 [.slice S0.seed.a S0.seed.n S0.seed.c, .int .i64 D0.num]) := KA0_18.out.later b19
  have Ow0r_19 : Hid (DiOwn x19 pw0 qw0 Sw0 R0) := Ow0r_18.out.later b19
  have Ow1r_19 : Hid (SOwn x19 pw1 qw1 Sw1 R1) := Ow1r_18.out.later b19
  have Kw0_19 : Hid (Blk x19 gw0 25 [.slice Sw0.seed.a Sw0.seed.n Sw0.seed.c, .int .i64 R0.num]) := Kw0_18.out.later b19
  have Kg0_19 : Hid (Blk x19 gg0 25 [.slice Sg0.seed.a Sg0.seed.n Sg0.seed.c, .int .i64 R0.num]) := Kg0_18.out.later b19
  have Og0r_19 : Hid (DiOwn x19 pg0 qg0 Sg0 (diMarks (1 : Int) Sg0 R0)) := Og0r_18.out.later b19
  have Og1r_19 : Hid (SOwn x19 pg1 qg1 Sg1 (marks ((1 : Int) + (diSum Sg0 : Int)) Sg1.n)) := Og1r_18.out.later b19
  clear b19 B18 KA0_18 Ow0r_18 Ow1r_18 Kw0_18 Kg0_18 Og0r_18 Og1r_18
  have Oy0_19 : Hid (DiOwn x19 x18.heap.size x19.heap.size Sy0 D0) := o
  clear o
  go_wp2_with fail
  refine (DiJ.implRoll Sy0 D0 x19 (HT.out.later B19.out) Oy0_19.out.rd HLL0.out.seed).mono ?_
  rw [HRD0.out, HRD1.out]
  rintro e x20 ⟨Sh0, Sh1, ph0, qh0, ph1, qh1, rfl, o0, o1, z, b⟩
  have L20 : Hid (x19.heap.size ≤ x20.heap.size) := b.size
  have B20 : Hid (Below w.heap.size w x20) := B19.out.trans (b.mono B19.out.size)
  have KA0_20 : Hid (Blk x20 ga0 36 [.slice S0.seed.a S0.seed.n S0.seed.c, .int .i64 D0.num]) := KA0_19.out.later b
  have Ow0r_20 : Hid (DiOwn x20 pw0 qw0 Sw0 R0) := Ow0r_19.out.later b
  have Ow1r_20 : Hid (SOwn x20 pw1 qw1 Sw1 R1) := Ow1r_19.out.later b
  have Kw0_20 : Hid (Blk x20 gw0 25 [.slice Sw0.seed.a Sw0.seed.n Sw0.seed.c, .int .i64 R0.num]) := Kw0_19.out.later b
  have Kg0_20 : Hid (Blk x20 gg0 25 [.slice Sg0.seed.a Sg0.seed.n Sg0.seed.c, .int .i64 R0.num]) := Kg0_19.out.later b
  have Og0r_20 : Hid (DiOwn x20 pg0 qg0 Sg0 (diMarks (1 : Int) Sg0 R0)) := Og0r_19.out.later b
  have Og1r_20 : Hid (SOwn x20 pg1 qg1 Sg1 (marks ((1 : Int) + (diSum Sg0 : Int)) Sg1.n)) := Og1r_19.out.later b
  have Oy0_20 : Hid (DiOwn x20 x18.heap.size x19.heap.size Sy0 D0) := Oy0_19.out.later b
  clear b B19 KA0_19 Ow0r_19 Ow1r_19 Kw0_19 Kg0_19 Og0r_19 Og1r_19 Oy0_19
  have Oh0r_20 : Hid (DiOwn x20 ph0 qh0 Sh0 R0) := o0
  clear o0
  have Oh1r_20 : Hid (SOwn x20 ph1 qh1 Sh1 R1) := o1
  clear o1
  have Zh_ : Hid (x19.heap.size ≤ ph0 ∧ qh0 ≤ x20.heap.size ∧ x19.heap.size ≤ ph1 ∧ qh1 ≤ x20.heap.size ∧ (qh0 ≤ ph1 ∨ qh1 ≤ ph0)) := z
  clear z
  obtain ⟨x21, hx21⟩ : ∃ x21, x20.alloc (.cells #[.slice Sh0.seed.a Sh0.seed.n Sh0.seed.c, .int .i64 R0.num] 25) = x21 := ⟨_, rfl⟩
  have HW21 : Hid (x20.alloc (.cells #[.slice Sh0.seed.a Sh0.seed.n Sh0.seed.c, .int .i64 R0.num] 25) = x21) := hx21
  have b : Below x20.heap.size x20 x21 := by rw [← hx21]; exact (Below.refl _ _).alloc (Nat.le_refl _) _
  have KN0 : Blk x21 (x20.heap.size) 25 [.slice Sh0.seed.a Sh0.seed.n Sh0.seed.c, .int .i64 R0.num] := by
    have q := Blk.new (x20) 25 [.slice Sh0.seed.a Sh0.seed.n Sh0.seed.c, .int .i64 R0.num]
    rw [← hx21]; exact q
  have HSZ21 : Hid (x21.heap.size = x20.heap.size + 1) := by rw [← hx21]; show _ = _; simp
  clear hx21
  have L21 : Hid (x20.heap.size ≤ x21.heap.size) := b.size
  have B21 : Hid (Below w.heap.size w x21) := B20.out.trans (b.mono B20.out.size)
  have KA0_21 : Hid (Blk x21 ga0 36 [.slice S0.seed.a S0.seed.n S0.seed.c, .int .i64 D0.num]) := KA0_20.out.later b
  have Ow0r_21 : Hid (DiOwn x21 pw0 qw0 Sw0 R0) := Ow0r_20.out.later b
  have Ow1r_21 : Hid (SOwn x21 pw1 qw1 Sw1 R1) := Ow1r_20.out.later b
  have Kw0_21 : Hid (Blk x21 gw0 25 [.slice Sw0.seed.a Sw0.seed.n Sw0.seed.c, .int .i64 R0.num]) := Kw0_20.out.later b
  have Kg0_21 : Hid (Blk x21 gg0 25 [.slice Sg0.seed.a Sg0.seed.n Sg0.seed.c, .int .i64 R0.num]) := Kg0_20.out.later b
  have Og0r_21 : Hid (DiOwn x21 pg0 qg0 Sg0 (diMarks (1 : Int) Sg0 R0)) := Og0r_20.out.later b
  have Og1r_21 : Hid (SOwn x21 pg1 qg1 Sg1 (marks ((1 : Int) + (diSum Sg0 : Int)) Sg1.n)) := Og1r_20.out.later b
  have Oy0_21 : Hid (DiOwn x21 x18.heap.size x19.heap.size Sy0 D0) := Oy0_20.out.later b
  have Oh0r_21 : Hid (DiOwn x21 ph0 qh0 Sh0 R0) := Oh0r_20.out.later b
  have Oh1r_21 : Hid (SOwn x21 ph1 qh1 Sh1 R1) := Oh1r_20.out.later b
  clear b B20 KA0_20 Ow0r_20 Ow1r_20 Kw0_20 Kg0_20 Og0r_20 Og1r_20 Oy0_20 Oh0r_20 Oh1r_20
  unfold diV
  go_upto_region 29 with fail
  rw [HW21.out]
  obtain ⟨gh0, hg0⟩ : ∃ g, x20.heap.size = g := ⟨_, rfl⟩
  have Gh_ : Hid (x20.heap.size + 0 = gh0 ∧ x21.heap.size = x20.heap.size + 1) := ⟨by omega, HSZ21.out⟩
  rw [hg0] at KN0
  rw [hg0]
  clear HW21 HSZ21 hg0
  have Kh0_21 : Hid (Blk x21 gh0 25 [.slice Sh0.seed.a Sh0.seed.n Sh0.seed.c, .int .i64 R0.num]) := KN0
  clear KN0
  clear Oy0_21
  have ca0 := Kh0_21.out.cell 0 rfl
  have ca1 := Kh0_21.out.cell 1 rfl
  have cb0 := Kw0_21.out.cell 0 rfl
  have cb1 := Kw0_21.out.cell 1 rfl
  go_wp2_with fail
  refine (eqDice Sh0 Sw0 R0 x21 Oh0r_21.out.rd Ow0r_21.out.rd HRL0.out).mono ?_
  rintro e x22 ⟨rfl, b22⟩
  clear ca0 ca1
  clear cb0 cb1
  have L22 : Hid (x21.heap.size ≤ x22.heap.size) := b22.size
  have B22 : Hid (Below w.heap.size w x22) := B21.out.trans (b22.mono B21.out.size)
  have KA0_22 : Hid (Blk x22 ga0 36 [.slice S0.seed.a S0.seed.n S0.seed.c, .int .i64 D0.num]) := KA0_21.out.later b22
  have Ow0r_22 : Hid (DiOwn x22 pw0 qw0 Sw0 R0) := Ow0r_21.out.later b22
  have Ow1r_22 : Hid (SOwn x22 pw1 qw1 Sw1 R1) := Ow1r_21.out.later b22
  have Kw0_22 : Hid (Blk x22 gw0 25 [.slice Sw0.seed.a Sw0.seed.n Sw0.seed.c, .int .i64 R0.num]) := Kw0_21.out.later b22
  have Kg0_22 : Hid (Blk x22 gg0 25 [.slice Sg0.seed.a Sg0.seed.n Sg0.seed.c, .int .i64 R0.num]) := Kg0_21.out.later b22
  have Og0r_22 : Hid (DiOwn x22 pg0 qg0 Sg0 (diMarks (1 : Int) Sg0 R0)) := Og0r_21.out.later b22
  have Og1r_22 : Hid (SOwn x22 pg1 qg1 Sg1 (marks ((1 : Int) + (diSum Sg0 : Int)) Sg1.n)) := Og1r_21.out.later b22
  have Oh0r_22 : Hid (DiOwn x22 ph0 qh0 Sh0 R0) := Oh0r_21.out.later b22
  have Oh1r_22 : Hid (SOwn x22 ph1 qh1 Sh1 R1) := Oh1r_21.out.later b22
  have Kh0_22 : Hid (Blk x22 gh0 25 [.slice Sh0.seed.a Sh0.seed.n Sh0.seed.c, .int .i64 R0.num]) := Kh0_21.out.later b22
  clear b22 B21 KA0_21 Ow0r_21 Ow1r_21 Kw0_21 Kg0_21 Og0r_21 Og1r_21 Oh0r_21 Oh1r_21 Kh0_21
  go_wp2_with fail
  refine (eqB Sh1 Sw1 R1 R1 x22 Oh1r_22.out.rd Ow1r_22.out.rd (by have := HRS1.out; omega) (by have := HRS1.out; omega)).mono ?_
  rw [decide_eq_true (show R1 = R1 from rfl)]
  rintro e x23 ⟨rfl, b23⟩
  have L23 : Hid (x22.heap.size ≤ x23.heap.size) := b23.size
  have B23 : Hid (Below w.heap.size w x23) := B22.out.trans (b23.mono B22.out.size)
  have KA0_23 : Hid (Blk x23 ga0 36 [.slice S0.seed.a S0.seed.n S0.seed.c, .int .i64 D0.num]) := KA0_22.out.later b23
  have Ow0r_23 : Hid (DiOwn x23 pw0 qw0 Sw0 R0) := Ow0r_22.out.later b23
  have Ow1r_23 : Hid (SOwn x23 pw1 qw1 Sw1 R1) := Ow1r_22.out.later b23
  have Kw0_23 : Hid (Blk x23 gw0 25 [.slice Sw0.seed.a Sw0.seed.n Sw0.seed.c, .int .i64 R0.num]) := Kw0_22.out.later b23
  have Kg0_23 : Hid (Blk x23 gg0 25 [.slice Sg0.seed.a Sg0.seed.n Sg0.seed.c, .int .i64 R0.num]) := Kg0_22.out.later b23
  have Og0r_23 : Hid (DiOwn x23 pg0 qg0 Sg0 (diMarks (1 : Int) Sg0 R0)) := Og0r_22.out.later b23
  have Og1r_23 : Hid (SOwn x23 pg1 qg1 Sg1 (marks ((1 : Int) + (diSum Sg0 : Int)) Sg1.n)) := Og1r_22.out.later b23
  have Oh0r_23 : Hid (DiOwn x23 ph0 qh0 Sh0 R0) := Oh0r_22.out.later b23
  have Oh1r_23 : Hid (SOwn x23 ph1 qh1 Sh1 R1) := Oh1r_22.out.later b23
  have Kh0_23 : Hid (Blk x23 gh0 25 [.slice Sh0.seed.a Sh0.seed.n Sh0.seed.c, .int .i64 R0.num]) := Kh0_22.out.later b23
  clear b23 B22 KA0_22 Ow0r_22 Ow1r_22 Kw0_22 Kg0_22 Og0r_22 Og1r_22 Oh0r_22 Oh1r_22 Kh0_22
  have ca0 := Kg0_23.out.cell 0 rfl
  have ca1 := Kg0_23.out.cell 1 rfl
  go_wp2_with fail
  refine (heldDice Sg0 R0 (1 : Int) x23 Og0r_23.out.rd (by omega) (by omega)).mono ?_
  rintro e x24 ⟨rfl, b24⟩
  clear ca0 ca1
  have L24 : Hid (x23.heap.size ≤ x24.heap.size) := b24.size
  have B24 : Hid (Below w.heap.size w x24) := B23.out.trans (b24.mono B23.out.size)
  have KA0_24 : Hid (Blk x24 ga0 36 [.slice S0.seed.a S0.seed.n S0.seed.c, .int .i64 D0.num]) := KA0_23.out.later b24
  have Ow0r_24 : Hid (DiOwn x24 pw0 qw0 Sw0 R0) := Ow0r_23.out.later b24
  have Ow1r_24 : Hid (SOwn x24 pw1 qw1 Sw1 R1) := Ow1r_23.out.later b24
  have Kw0_24 : Hid (Blk x24 gw0 25 [.slice Sw0.seed.a Sw0.seed.n Sw0.seed.c, .int .i64 R0.num]) := Kw0_23.out.later b24
  have Kg0_24 : Hid (Blk x24 gg0 25 [.slice Sg0.seed.a Sg0.seed.n Sg0.seed.c, .int .i64 R0.num]) := Kg0_23.out.later b24
  have Og0r_24 : Hid (DiOwn x24 pg0 qg0 Sg0 (diMarks (1 : Int) Sg0 R0)) := Og0r_23.out.later b24
  have Og1r_24 : Hid (SOwn x24 pg1 qg1 Sg1 (marks ((1 : Int) + (diSum Sg0 : Int)) Sg1.n)) := Og1r_23.out.later b24
  have Oh0r_24 : Hid (DiOwn x24 ph0 qh0 Sh0 R0) := Oh0r_23.out.later b24
  have Oh1r_24 : Hid (SOwn x24 ph1 qh1 Sh1 R1) := Oh1r_23.out.later b24
  have Kh0_24 : Hid (Blk x24 gh0 25 [.slice Sh0.seed.a Sh0.seed.n Sh0.seed.c, .int .i64 R0.num]) := Kh0_23.out.later b24
  clear b24 B23 KA0_23 Ow0r_23 Ow1r_23 Kw0_23 Kg0_23 Og0r_23 Og1r_23 Oh0r_23 Oh1r_23 Kh0_23
  have hq24_0 : ¬ ((1 : Int) + (diSum Sg0 : Int) < 0) := by omega
  go_wp2_with fail
  refine (heldB Sg1 ((1 : Int) + (diSum Sg0 : Int)) x24 Og1r_24.out.rd (by omega) (by omega) (by omega)).mono ?_
  rintro e xz ⟨rfl, rfl⟩
  have hq24_1 : ¬ (((1 : Int) + (diSum Sg0 : Int)) + (Sg1.n : Int) < 0) := by omega
  go_wp2
  go_ret
  exact ⟨rfl, B24.out⟩
end Go.Proofs.YtcodonnknepkeaaDoor.LawRoll
