/-
  The walk of the law FnExactWind: at every argument it answers true, and nothing that was there is written.
-/
import Derived.Test.YtcodonnknepkeaaDiI
import Derived.Test.YtcodonnknepkeaaDiS
import Derived.Test.YtcodonnknepkeaaShp
import Derived.Test.YtcodonnknepkeaaOps
import Derived.Test.YtcodonnknepkeaaDiL
namespace Go.Proofs.Ytcodonnknepkeaa.LawWind
open Go.RowKit Go.Proofs.Ytcodonnknepkeaa.Mem Go.Proofs.Ytcodonnknepkeaa.Blk Go.Proofs.Ytcodonnknepkeaa.Zone Go.Proofs.Ytcodonnknepkeaa.ZoneB Go.Proofs.Ytcodonnknepkeaa.ZoneI Go.Proofs.Ytcodonnknepkeaa.MemI Go.Proofs.Ytcodonnknepkeaa.Each Go.Proofs.Ytcodonnknepkeaa.Copy Go.Proofs.Ytcodonnknepkeaa.Ops Go.Proofs.Ytcodonnknepkeaa.Shp Go.Proofs.Ytcodonnknepkeaa.App Go.Proofs.Ytcodonnknepkeaa.DiZ Go.Proofs.Ytcodonnknepkeaa.DiL Go.Proofs.Ytcodonnknepkeaa.DiP

set_option maxRecDepth 100000 in
set_option maxHeartbeats 8000000 in
theorem walk (D0 : DiD) (S0 : DiS) (a1 : Int) (w : World)  (h0 : DiRd w S0 D0) (m0 : DiSmall S0) :
    Calls Try.prog 4 #[diV D0 S0, .int .i64 a1] w fun e w' => e = .returned (.bool true) ∧ Below w.heap.size w w' := by
  obtain ⟨R0, hR0⟩ : ∃ R : DiD, windD D0 a1 = R := ⟨_, rfl⟩
  have HRD0 : Hid (windD D0 a1 = R0) := hR0
  clear hR0
  have HR0 : Hid (DiRd w S0 D0) := h0
  have HM0 : Hid (DiSmall S0) := m0
  clear h0 m0
  obtain ⟨x1, hx1⟩ : ∃ x1, w.alloc (.cells #[.slice S0.seed.a S0.seed.n S0.seed.c, .int .i64 D0.num] 24) = x1 := ⟨_, rfl⟩
  have HW0 : Hid (w.alloc (.cells #[.slice S0.seed.a S0.seed.n S0.seed.c, .int .i64 D0.num] 24) = x1) := hx1
  have b1 : Below w.heap.size w x1 := by rw [← hx1]; exact (Below.refl _ _).alloc (Nat.le_refl _) _
  have KN0 : Blk x1 (w.heap.size) 24 [.slice S0.seed.a S0.seed.n S0.seed.c, .int .i64 D0.num] := by
    have q := Blk.new (w) 24 [.slice S0.seed.a S0.seed.n S0.seed.c, .int .i64 D0.num]
    rw [← hx1]; exact q
  have SZ1 : x1.heap.size = w.heap.size + 1 := by rw [← hx1]; simp
  clear hx1
  have L1 : Hid (w.heap.size ≤ x1.heap.size) := b1.size
  have B1 : Hid (Below w.heap.size w x1) := b1
  clear b1
  unfold diV
  go_enter Try.func4, Try.ntmps4
  go_upto_region 1 with fail
  rw [HW0.out]
  obtain ⟨ga0, hga0⟩ : ∃ g, w.heap.size = g := ⟨_, rfl⟩
  have Gga : Hid (w.heap.size + 0 = ga0 ∧ x1.heap.size = w.heap.size + 1) := ⟨by omega, SZ1⟩
  rw [hga0] at KN0
  rw [hga0]
  clear HW0 SZ1 hga0
  have KA0_1 : Hid (Blk x1 ga0 24 [.slice S0.seed.a S0.seed.n S0.seed.c, .int .i64 D0.num]) := KN0
  clear KN0
  have c0 := KA0_1.out.cell 0 rfl
  have c1 := KA0_1.out.cell 1 rfl
  go_wp2_with fail
  refine (szDice S0 D0 (1048576 : Int) x1 HM0.out (by omega) (by omega)).mono ?_
  rintro e x2 ⟨rfl, b2⟩
  clear c0 c1
  have L2 : Hid (x1.heap.size ≤ x2.heap.size) := b2.size
  have B2 : Hid (Below w.heap.size w x2) := B1.out.trans (b2.mono B1.out.size)
  have KA0_2 : Hid (Blk x2 ga0 24 [.slice S0.seed.a S0.seed.n S0.seed.c, .int .i64 D0.num]) := KA0_1.out.later b2
  clear b2 B1 KA0_1
  by_cases hsum0 : (1048576 : Int) - (diSum S0 : Int) < 0
  · rw [if_pos hsum0]
    go_wp2
    go_ret
    exact ⟨rfl, B2.out⟩
  rw [if_neg hsum0]
  have HL0 : Hid (DiShort D0 1048576) := di_short_of HR0.out (by omega)
  have HLL0 : Hid (DiShort D0 4194304) := di_short_le HL0.out (by omega)
  have HRS0 : Hid (DiShort R0 1048576) := by rw [← HRD0.out]; exact wind_short HL0.out
  have HRL0 : Hid (DiShort R0 4194304) := di_short_le HRS0.out (by omega)
  have c0 := KA0_2.out.cell 0 rfl
  have c1 := KA0_2.out.cell 1 rfl
  go_wp2_with fail
  refine (toDice S0 D0 x2 (HR0.out.later B2.out) HLL0.out).mono ?_
  rintro e x3 ⟨Sp0, rfl, o, b3⟩
  clear c0 c1
  have L3 : Hid (x2.heap.size ≤ x3.heap.size) := b3.size
  have B3 : Hid (Below w.heap.size w x3) := B2.out.trans (b3.mono B2.out.size)
  have KA0_3 : Hid (Blk x3 ga0 24 [.slice S0.seed.a S0.seed.n S0.seed.c, .int .i64 D0.num]) := KA0_2.out.later b3
  clear b3 B2 KA0_2
  have Op0_3 : Hid (DiOwn x3 x2.heap.size x3.heap.size Sp0 D0) := o
  clear o
  go_wp2_with fail
  refine (DiS.specWind Sp0 D0 a1 x3 Op0_3.out.rd HLL0.out.seed).mono ?_
  rw [HRD0.out]
  rintro e x4 ⟨Sw0, rfl, o0, b⟩
  have L4 : Hid (x3.heap.size ≤ x4.heap.size) := b.size
  have B4 : Hid (Below w.heap.size w x4) := B3.out.trans (b.mono B3.out.size)
  have KA0_4 : Hid (Blk x4 ga0 24 [.slice S0.seed.a S0.seed.n S0.seed.c, .int .i64 D0.num]) := KA0_3.out.later b
  have Op0_4 : Hid (DiOwn x4 x2.heap.size x3.heap.size Sp0 D0) := Op0_3.out.later b
  clear b B3 KA0_3 Op0_3
  have Ow0r_4 : Hid (DiOwn x4 x3.heap.size x4.heap.size Sw0 R0) := o0
  clear o0
  obtain ⟨x5, hx5⟩ : ∃ x5, x4.alloc (.cells #[.slice Sw0.seed.a Sw0.seed.n Sw0.seed.c, .int .i64 R0.num] 27) = x5 := ⟨_, rfl⟩
  have HW5 : Hid (x4.alloc (.cells #[.slice Sw0.seed.a Sw0.seed.n Sw0.seed.c, .int .i64 R0.num] 27) = x5) := hx5
  have b : Below x4.heap.size x4 x5 := by rw [← hx5]; exact (Below.refl _ _).alloc (Nat.le_refl _) _
  have KN0 : Blk x5 (x4.heap.size) 27 [.slice Sw0.seed.a Sw0.seed.n Sw0.seed.c, .int .i64 R0.num] := by
    have q := Blk.new (x4) 27 [.slice Sw0.seed.a Sw0.seed.n Sw0.seed.c, .int .i64 R0.num]
    rw [← hx5]; exact q
  have HSZ5 : Hid (x5.heap.size = x4.heap.size + 1) := by rw [← hx5]; show _ = _; simp
  clear hx5
  have L5 : Hid (x4.heap.size ≤ x5.heap.size) := b.size
  have B5 : Hid (Below w.heap.size w x5) := B4.out.trans (b.mono B4.out.size)
  have KA0_5 : Hid (Blk x5 ga0 24 [.slice S0.seed.a S0.seed.n S0.seed.c, .int .i64 D0.num]) := KA0_4.out.later b
  have Op0_5 : Hid (DiOwn x5 x2.heap.size x3.heap.size Sp0 D0) := Op0_4.out.later b
  have Ow0r_5 : Hid (DiOwn x5 x3.heap.size x4.heap.size Sw0 R0) := Ow0r_4.out.later b
  clear b B4 KA0_4 Op0_4 Ow0r_4
  unfold diV
  go_upto_region 6 with fail
  rw [HW5.out]
  obtain ⟨gw0, hg0⟩ : ∃ g, x4.heap.size = g := ⟨_, rfl⟩
  have Gw_ : Hid (x4.heap.size + 0 = gw0 ∧ x5.heap.size = x4.heap.size + 1) := ⟨by omega, HSZ5.out⟩
  rw [hg0] at KN0
  rw [hg0]
  clear HW5 HSZ5 hg0
  have Kw0_5 : Hid (Blk x5 gw0 27 [.slice Sw0.seed.a Sw0.seed.n Sw0.seed.c, .int .i64 R0.num]) := KN0
  clear KN0
  clear Op0_5
  have c0 := KA0_5.out.cell 0 rfl
  have c1 := KA0_5.out.cell 1 rfl
  go_wp2_with fail
  refine (toDice S0 D0 x5 (HR0.out.later B5.out) HLL0.out).mono ?_
  rintro e x6 ⟨Sx0, rfl, o, b6⟩
  clear c0 c1
  have L6 : Hid (x5.heap.size ≤ x6.heap.size) := b6.size
  have B6 : Hid (Below w.heap.size w x6) := B5.out.trans (b6.mono B5.out.size)
  have KA0_6 : Hid (Blk x6 ga0 24 [.slice S0.seed.a S0.seed.n S0.seed.c, .int .i64 D0.num]) := KA0_5.out.later b6
  have Ow0r_6 : Hid (DiOwn x6 x3.heap.size x4.heap.size Sw0 R0) := Ow0r_5.out.later b6
  have Kw0_6 : Hid (Blk x6 gw0 27 [.slice Sw0.seed.a Sw0.seed.n Sw0.seed.c, .int .i64 R0.num]) := Kw0_5.out.later b6
  clear b6 B5 KA0_5 Ow0r_5 Kw0_5
  have Ox0_6 : Hid (DiOwn x6 x5.heap.size x6.heap.size Sx0 D0) := o
  clear o
  obtain ⟨x7, hx7⟩ : ∃ x7, x6.alloc (.cells #[.slice Sx0.seed.a Sx0.seed.n Sx0.seed.c, .int .i64 D0.num] 27) = x7 := ⟨_, rfl⟩
  have HW7 : Hid (x6.alloc (.cells #[.slice Sx0.seed.a Sx0.seed.n Sx0.seed.c, .int .i64 D0.num] 27) = x7) := hx7
  have b7 : Below x6.heap.size x6 x7 := by rw [← hx7]; exact (Below.refl _ _).alloc (Nat.le_refl _) _
  have KN : Blk x7 x6.heap.size 27 [.slice Sx0.seed.a Sx0.seed.n Sx0.seed.c, .int .i64 D0.num] := by rw [← hx7]; exact Blk.new x6 _ _
  have HSZ7 : Hid (x7.heap.size = x6.heap.size + 1) := by rw [← hx7]; show _ = _; simp
  clear hx7
  have L7 : Hid (x6.heap.size ≤ x7.heap.size) := b7.size
  have B7 : Hid (Below w.heap.size w x7) := B6.out.trans (b7.mono B6.out.size)
  have KA0_7 : Hid (Blk x7 ga0 24 [.slice S0.seed.a S0.seed.n S0.seed.c, .int .i64 D0.num]) := KA0_6.out.later b7
  have Ow0r_7 : Hid (DiOwn x7 x3.heap.size x4.heap.size Sw0 R0) := Ow0r_6.out.later b7
  have Kw0_7 : Hid (Blk x7 gw0 27 [.slice Sw0.seed.a Sw0.seed.n Sw0.seed.c, .int .i64 R0.num]) := Kw0_6.out.later b7
  have Ox0_7 : Hid (DiOwn x7 x5.heap.size x6.heap.size Sx0 D0) := Ox0_6.out.later b7
  clear b7 B6 KA0_6 Ow0r_6 Kw0_6 Ox0_6
  unfold diV
  go_upto_region 7 with fail
  rw [HW7.out]
  obtain ⟨gx0, hgx0⟩ : ∃ gx0, x6.heap.size = gx0 := ⟨_, rfl⟩
  have Ggx0 : Hid (x6.heap.size = gx0 ∧ x7.heap.size = gx0 + 1) := ⟨hgx0, by rw [← hgx0]; exact HSZ7.out⟩
  rw [hgx0] at KN ⊢
  clear HW7 HSZ7 hgx0
  have Kx0_7 : Hid (Blk x7 gx0 27 [.slice Sx0.seed.a Sx0.seed.n Sx0.seed.c, .int .i64 D0.num]) := KN
  clear KN
  have cx0_0 := Kx0_7.out.cell 0 rfl
  have cx0_1 := Kx0_7.out.cell 1 rfl
  go_wp2_with fail
  refine (DiI.implWind Sx0 D0 a1 x7 Ox0_7.out.rd HLL0.out.seed).mono ?_
  rw [HRD0.out]
  rintro e x8 ⟨Sg0, rfl, o0, b⟩
  clear cx0_0 cx0_1
  have L8 : Hid (x7.heap.size ≤ x8.heap.size) := b.size
  have B8 : Hid (Below w.heap.size w x8) := B7.out.trans (b.mono B7.out.size)
  have KA0_8 : Hid (Blk x8 ga0 24 [.slice S0.seed.a S0.seed.n S0.seed.c, .int .i64 D0.num]) := KA0_7.out.later b
  have Ow0r_8 : Hid (DiOwn x8 x3.heap.size x4.heap.size Sw0 R0) := Ow0r_7.out.later b
  have Kw0_8 : Hid (Blk x8 gw0 27 [.slice Sw0.seed.a Sw0.seed.n Sw0.seed.c, .int .i64 R0.num]) := Kw0_7.out.later b
  have Ox0_8 : Hid (DiOwn x8 x5.heap.size x6.heap.size Sx0 D0) := Ox0_7.out.later b
  have Kx0_8 : Hid (Blk x8 gx0 27 [.slice Sx0.seed.a Sx0.seed.n Sx0.seed.c, .int .i64 D0.num]) := Kx0_7.out.later b
  clear b B7 KA0_7 Ow0r_7 Kw0_7 Ox0_7 Kx0_7
  have Og0r_8 : Hid (DiOwn x8 x7.heap.size x8.heap.size Sg0 R0) := o0
  clear o0
  obtain ⟨x9, hx9⟩ : ∃ x9, x8.alloc (.cells #[.slice Sg0.seed.a Sg0.seed.n Sg0.seed.c, .int .i64 R0.num] 27) = x9 := ⟨_, rfl⟩
  have HW9 : Hid (x8.alloc (.cells #[.slice Sg0.seed.a Sg0.seed.n Sg0.seed.c, .int .i64 R0.num] 27) = x9) := hx9
  have b : Below x8.heap.size x8 x9 := by rw [← hx9]; exact (Below.refl _ _).alloc (Nat.le_refl _) _
  have KN0 : Blk x9 (x8.heap.size) 27 [.slice Sg0.seed.a Sg0.seed.n Sg0.seed.c, .int .i64 R0.num] := by
    have q := Blk.new (x8) 27 [.slice Sg0.seed.a Sg0.seed.n Sg0.seed.c, .int .i64 R0.num]
    rw [← hx9]; exact q
  have HSZ9 : Hid (x9.heap.size = x8.heap.size + 1) := by rw [← hx9]; show _ = _; simp
  clear hx9
  have L9 : Hid (x8.heap.size ≤ x9.heap.size) := b.size
  have B9 : Hid (Below w.heap.size w x9) := B8.out.trans (b.mono B8.out.size)
  have KA0_9 : Hid (Blk x9 ga0 24 [.slice S0.seed.a S0.seed.n S0.seed.c, .int .i64 D0.num]) := KA0_8.out.later b
  have Ow0r_9 : Hid (DiOwn x9 x3.heap.size x4.heap.size Sw0 R0) := Ow0r_8.out.later b
  have Kw0_9 : Hid (Blk x9 gw0 27 [.slice Sw0.seed.a Sw0.seed.n Sw0.seed.c, .int .i64 R0.num]) := Kw0_8.out.later b
  have Ox0_9 : Hid (DiOwn x9 x5.heap.size x6.heap.size Sx0 D0) := Ox0_8.out.later b
  have Kx0_9 : Hid (Blk x9 gx0 27 [.slice Sx0.seed.a Sx0.seed.n Sx0.seed.c, .int .i64 D0.num]) := Kx0_8.out.later b
  have Og0r_9 : Hid (DiOwn x9 x7.heap.size x8.heap.size Sg0 R0) := Og0r_8.out.later b
  clear b B8 KA0_8 Ow0r_8 Kw0_8 Ox0_8 Kx0_8 Og0r_8
  unfold diV
  go_upto_region 8 with fail
  rw [HW9.out]
  obtain ⟨gg0, hg0⟩ : ∃ g, x8.heap.size = g := ⟨_, rfl⟩
  have Gg_ : Hid (x8.heap.size + 0 = gg0 ∧ x9.heap.size = x8.heap.size + 1) := ⟨by omega, HSZ9.out⟩
  rw [hg0] at KN0
  rw [hg0]
  clear HW9 HSZ9 hg0
  have Kg0_9 : Hid (Blk x9 gg0 27 [.slice Sg0.seed.a Sg0.seed.n Sg0.seed.c, .int .i64 R0.num]) := KN0
  clear KN0
  have ca0 := Kg0_9.out.cell 0 rfl
  have ca1 := Kg0_9.out.cell 1 rfl
  have cb0 := Kw0_9.out.cell 0 rfl
  have cb1 := Kw0_9.out.cell 1 rfl
  go_wp2_with fail
  refine (eqDice Sg0 Sw0 R0 x9 Og0r_9.out.rd Ow0r_9.out.rd HRL0.out).mono ?_
  rintro e x10 ⟨rfl, b10⟩
  clear ca0 ca1
  clear cb0 cb1
  have L10 : Hid (x9.heap.size ≤ x10.heap.size) := b10.size
  have B10 : Hid (Below w.heap.size w x10) := B9.out.trans (b10.mono B9.out.size)
  have KA0_10 : Hid (Blk x10 ga0 24 [.slice S0.seed.a S0.seed.n S0.seed.c, .int .i64 D0.num]) := KA0_9.out.later b10
  have Ow0r_10 : Hid (DiOwn x10 x3.heap.size x4.heap.size Sw0 R0) := Ow0r_9.out.later b10
  have Kw0_10 : Hid (Blk x10 gw0 27 [.slice Sw0.seed.a Sw0.seed.n Sw0.seed.c, .int .i64 R0.num]) := Kw0_9.out.later b10
  have Ox0_10 : Hid (DiOwn x10 x5.heap.size x6.heap.size Sx0 D0) := Ox0_9.out.later b10
  have Kx0_10 : Hid (Blk x10 gx0 27 [.slice Sx0.seed.a Sx0.seed.n Sx0.seed.c, .int .i64 D0.num]) := Kx0_9.out.later b10
  have Og0r_10 : Hid (DiOwn x10 x7.heap.size x8.heap.size Sg0 R0) := Og0r_9.out.later b10
  have Kg0_10 : Hid (Blk x10 gg0 27 [.slice Sg0.seed.a Sg0.seed.n Sg0.seed.c, .int .i64 R0.num]) := Kg0_9.out.later b10
  clear b10 B9 KA0_9 Ow0r_9 Kw0_9 Ox0_9 Kx0_9 Og0r_9 Kg0_9
  go_upto_region 10 with fail
  go_cut [35] from 31 to 34 (fun sv wx => sv = .bool false ∧ Below x10.heap.size x10 wx)
  case first =>
    rename_i J K' hRJ hMet
    generalize hA : Act.mk _ _ = A
    have a2' : A.eval (.tmp 2) = .pointer (some ⟨ga0, 0, none⟩) := by rw [← hA]; rfl
    have a7' : A.eval (.tmp 7) = .pointer (some ⟨gx0, 0, none⟩) := by rw [← hA]; rfl
    have asz : A.tmps.size = 74 := by rw [← hA]; rfl
    have hKA : ∀ wx, Below x10.heap.size x10 wx → Blk wx ga0 24 [.slice S0.seed.a S0.seed.n S0.seed.c, .int .i64 D0.num] := fun wx hb => KA0_10.out.later hb
    have hKB : ∀ wx, Below x10.heap.size x10 wx → Blk wx gx0 27 [.slice Sx0.seed.a Sx0.seed.n Sx0.seed.c, .int .i64 D0.num] := fun wx hb => Kx0_10.out.later hb
    have hRS : ∀ wx, Below x10.heap.size x10 wx → DiRd wx S0 D0 := fun wx hb => HR0.out.later (B10.out.trans (hb.mono B10.out.size))
    have hRT : ∀ wx, Below x10.heap.size x10 wx → DiRd wx Sx0 D0 := fun wx hb => (Ox0_10.out.later hb).rd
    refine region_each (by kernel_rfl) [31, 32, 33, 34] 4 (fun i => [31, 32, 33, 34].getD i 0) (fun _ => 0)
      (fun i gB v wx => match i with
        | 0 => v = .agg #[.slice Sx0.seed.a Sx0.seed.n Sx0.seed.c, .int .i64 D0.num]
        | 1 => v = .agg #[.slice S0.seed.a S0.seed.n S0.seed.c, .int .i64 D0.num]
        | 2 => ∃ S3, v = diV D0 S3 ∧ DiRd wx S3 D0
        | 3 => v = .bool true
        | _ => False) (fun wx => Below x10.heap.size x10 wx) (by kernel_rfl) (Below.refl _ _).drew ?_ ?_ ?_
    · intro i gB v wx wy hi hF hb _
      match i, hi with
      | 0, _ => exact hF
      | 1, _ => exact hF
      | 2, _ => obtain ⟨S3, h0, h1⟩ := hF; exact ⟨S3, h0, h1.later hb⟩
      | 3, _ => exact hF
    · intro i hi t ρ wx hB hp hd
      match i, hi with
      | 0, _ =>
        have e7 : (fr [31, 32, 33, 34] A t).eval (.tmp 7) = .pointer (some ⟨gx0, 0, none⟩) := (fr_eval_old _ _ _ 7 rfl).trans a7'
        have hc0 := (hKB wx hB).cell 0 rfl
        have hc1 := (hKB wx hB).cell 1 rfl
        refine op_run (v := .agg #[.slice Sx0.seed.a Sx0.seed.n Sx0.seed.c, .int .i64 D0.num]) (w' := wx) rfl rfl ?_ ?_
        · clear hp hd; have ec : ∀ v, (fr [31, 32, 33, 34] A t).eval (.const v) = v := fun _ => rfl; generalize (fr [31, 32, 33, 34] A t).eval = ev at ec e7 ⊢; go_simp
        · exact ⟨_, 0, rfl, hB, Below.refl _ _, rfl, .inl rfl⟩
      | 1, _ =>
        have e2 : (fr [31, 32, 33, 34] A t).eval (.tmp 2) = .pointer (some ⟨ga0, 0, none⟩) := (fr_eval_old _ _ _ 2 rfl).trans a2'
        have hc0 := (hKA wx hB).cell 0 rfl
        have hc1 := (hKA wx hB).cell 1 rfl
        refine op_run (v := .agg #[.slice S0.seed.a S0.seed.n S0.seed.c, .int .i64 D0.num]) (w' := wx) rfl rfl ?_ ?_
        · clear hp hd; have ec : ∀ v, (fr [31, 32, 33, 34] A t).eval (.const v) = v := fun _ => rfl; generalize (fr [31, 32, 33, 34] A t).eval = ev at ec e2 ⊢; go_simp
        · exact ⟨_, 0, rfl, hB, Below.refl _ _, rfl, .inl rfl⟩
      | 2, _ =>
        have e32 : (fr [31, 32, 33, 34] A t).eval (.tmp 32) = .agg #[.slice S0.seed.a S0.seed.n S0.seed.c, .int .i64 D0.num] := (fr_eval _ _ _ 32 rfl (by rw [asz]; decide)).trans (hp 1 (pre_mem (by kernel_rfl)))
        refine op_call (f := 7) (args := #[.agg #[.slice S0.seed.a S0.seed.n S0.seed.c, .int .i64 D0.num]]) rfl rfl ?_ (toDice S0 D0 wx (hRS wx hB) HLL0.out) ?_
        · have ef : (fr [31, 32, 33, 34] A t).eval (.func 7) = .func (.func 7) #[] #[] := rfl; clear hp hd; have ec : ∀ v, (fr [31, 32, 33, 34] A t).eval (.const v) = v := fun _ => rfl; generalize (fr [31, 32, 33, 34] A t).eval = ev at ec e32 ef ⊢; go_simp
        · rintro e wy ⟨S3, rfl, o3, b1⟩
          exact ⟨_, rfl, _, wx.heap.size, rfl, hB.trans (b1.mono hB.size), b1, ⟨S3, rfl, o3.rd⟩, .inl rfl⟩
      | 3, _ =>
        have e31 : (fr [31, 32, 33, 34] A t).eval (.tmp 31) = .agg #[.slice Sx0.seed.a Sx0.seed.n Sx0.seed.c, .int .i64 D0.num] := (fr_eval _ _ _ 31 rfl (by rw [asz]; decide)).trans (hp 0 (pre_mem (by kernel_rfl)))
        obtain ⟨S32, hv2, q2_0⟩ := hp 2 (pre_mem (by kernel_rfl))
        have e33 : (fr [31, 32, 33, 34] A t).eval (.tmp 33) = diV D0 S32 := (fr_eval _ _ _ 33 rfl (by rw [asz]; decide)).trans hv2
        refine op_call (f := 9) (args := #[.agg #[.slice Sx0.seed.a Sx0.seed.n Sx0.seed.c, .int .i64 D0.num], diV D0 S32]) rfl rfl ?_ (eqDice Sx0 S32 D0 wx (hRT wx hB) q2_0 HLL0.out) ?_
        · have ef : (fr [31, 32, 33, 34] A t).eval (.func 9) = .func (.func 9) #[] #[] := rfl; clear hp hd q2_0; have ec : ∀ v, (fr [31, 32, 33, 34] A t).eval (.const v) = v := fun _ => rfl; generalize (fr [31, 32, 33, 34] A t).eval = ev at ec e31 e33 ef ⊢; go_simp
        · rintro e wy ⟨rfl, b1⟩
          exact ⟨_, rfl, _, wx.heap.size, rfl, hB.trans (b1.mono hB.size), b1, rfl, .inl rfl⟩
    · intro t ρ wx hB hF hne
      have hv3 := hF 3 (by decide)
      have e34 : (fr [31, 32, 33, 34] A t).eval (.tmp 34) = .bool true := (fr_eval _ _ _ 34 rfl (by rw [asz]; decide)).trans hv3
      clear hne
      refine op_wp rfl rfl ?_
      generalize hE : (fr [31, 32, 33, 34] A t).eval = ev at e34
      unfold Oper.wp
      rw [hE]
      clear hv3
      go_simp
      refine hMet _ _ (Met.intro (hRJ _ _ ⟨t 31, t 32, t 33, t 34, _, ⟨rfl, hB⟩, ?_⟩))
      rw [← hA]; rfl
  case rest =>
  obtain ⟨x11, hq11⟩ : ∃ x11, x11 = wc := ⟨_, rfl⟩
  subst hq11
  obtain ⟨rfl, b11⟩ := hcut
  have L11 : Hid (x10.heap.size ≤ x11.heap.size) := b11.size
  have B11 : Hid (Below w.heap.size w x11) := B10.out.trans (b11.mono B10.out.size)
  have KA0_11 : Hid (Blk x11 ga0 24 [.slice S0.seed.a S0.seed.n S0.seed.c, .int .i64 D0.num]) := KA0_10.out.later b11
  have Ow0r_11 : Hid (DiOwn x11 x3.heap.size x4.heap.size Sw0 R0) := Ow0r_10.out.later b11
  have Kw0_11 : Hid (Blk x11 gw0 27 [.slice Sw0.seed.a Sw0.seed.n Sw0.seed.c, .int .i64 R0.num]) := Kw0_10.out.later b11
  have Ox0_11 : Hid (DiOwn x11 x5.heap.size x6.heap.size Sx0 D0) := Ox0_10.out.later b11
  have Kx0_11 : Hid (Blk x11 gx0 27 [.slice Sx0.seed.a Sx0.seed.n Sx0.seed.c, .int .i64 D0.num]) := Kx0_10.out.later b11
  have Og0r_11 : Hid (DiOwn x11 x7.heap.size x8.heap.size Sg0 R0) := Og0r_10.out.later b11
  have Kg0_11 : Hid (Blk x11 gg0 27 [.slice Sg0.seed.a Sg0.seed.n Sg0.seed.c, .int .i64 R0.num]) := Kg0_10.out.later b11
  clear b11 B10 KA0_10 Ow0r_10 Kw0_10 Ox0_10 Kx0_10 Og0r_10 Kg0_10
  have hks0 : (diSum Sx0 : Int) ≤ 1048576 := by have := di_sum_eq HR0.out Ox0_11.out.rd; omega
  have ca0 := Kx0_11.out.cell 0 rfl
  have ca1 := Kx0_11.out.cell 1 rfl
  go_wp2_with fail
  refine (markDice Sx0 D0 (1 : Int) x11 x5.heap.size x6.heap.size Ox0_11.out (by have := L1.out; have := Gga.out; have := L2.out; have := L3.out; have := L4.out; have := L5.out; have := Gw_.out; have := L6.out; have := L7.out; have := Ggx0.out; have := L8.out; have := L9.out; have := Gg_.out; have := L10.out; have := L11.out; omega) (by omega) (by omega)).mono ?_
  rintro e x12 ⟨rfl, _, k12⟩
  clear ca0 ca1
  have L12 : Hid (x11.heap.size ≤ x12.heap.size) := k12.size
  have B12 : Hid (Below w.heap.size w x12) := B11.out.trans (k12.below (by have := L1.out; have := Gga.out; have := L2.out; have := L3.out; have := L4.out; have := L5.out; have := Gw_.out; have := L6.out; have := L7.out; have := Ggx0.out; have := L8.out; have := L9.out; have := Gg_.out; have := L10.out; have := L11.out; have := L12.out; omega) B11.out.size)
  have KA0_12 : Hid (Blk x12 ga0 24 [.slice S0.seed.a S0.seed.n S0.seed.c, .int .i64 D0.num]) := KA0_11.out.keep (k12.block _ KA0_11.out.lt (by have := L1.out; have := Gga.out; have := L2.out; have := L3.out; have := L4.out; have := L5.out; have := Gw_.out; have := L6.out; have := L7.out; have := Ggx0.out; have := L8.out; have := L9.out; have := Gg_.out; have := L10.out; have := L11.out; have := L12.out; omega))
  have Ow0r_12 : Hid (DiOwn x12 x3.heap.size x4.heap.size Sw0 R0) := Ow0r_11.out.carry k12 (by have := L1.out; have := Gga.out; have := L2.out; have := L3.out; have := L4.out; have := L5.out; have := Gw_.out; have := L6.out; have := L7.out; have := Ggx0.out; have := L8.out; have := L9.out; have := Gg_.out; have := L10.out; have := L11.out; have := L12.out; omega)
  have Kw0_12 : Hid (Blk x12 gw0 27 [.slice Sw0.seed.a Sw0.seed.n Sw0.seed.c, .int .i64 R0.num]) := Kw0_11.out.keep (k12.block _ Kw0_11.out.lt (by have := L1.out; have := Gga.out; have := L2.out; have := L3.out; have := L4.out; have := L5.out; have := Gw_.out; have := L6.out; have := L7.out; have := Ggx0.out; have := L8.out; have := L9.out; have := Gg_.out; have := L10.out; have := L11.out; have := L12.out; omega))
  have Og0r_12 : Hid (DiOwn x12 x7.heap.size x8.heap.size Sg0 R0) := Og0r_11.out.carry k12 (by have := L1.out; have := Gga.out; have := L2.out; have := L3.out; have := L4.out; have := L5.out; have := Gw_.out; have := L6.out; have := L7.out; have := Ggx0.out; have := L8.out; have := L9.out; have := Gg_.out; have := L10.out; have := L11.out; have := L12.out; omega)
  have Kg0_12 : Hid (Blk x12 gg0 27 [.slice Sg0.seed.a Sg0.seed.n Sg0.seed.c, .int .i64 R0.num]) := Kg0_11.out.keep (k12.block _ Kg0_11.out.lt (by have := L1.out; have := Gga.out; have := L2.out; have := L3.out; have := L4.out; have := L5.out; have := Gw_.out; have := L6.out; have := L7.out; have := Ggx0.out; have := L8.out; have := L9.out; have := Gg_.out; have := L10.out; have := L11.out; have := L12.out; omega))
  clear k12 B11 KA0_11 Ow0r_11 Kw0_11 Ox0_11 Kx0_11 Og0r_11 Kg0_11
  have hk0 : ¬ (((1 : Int) + (diSum Sx0 : Int)) < 0) := by omega
  have ca0 := Kg0_12.out.cell 0 rfl
  have ca1 := Kg0_12.out.cell 1 rfl
  have cb0 := Kw0_12.out.cell 0 rfl
  have cb1 := Kw0_12.out.cell 1 rfl
  go_wp2_with fail
  refine (eqDice Sg0 Sw0 R0 x12 Og0r_12.out.rd Ow0r_12.out.rd HRL0.out).mono ?_
  rintro e x13 ⟨rfl, b13⟩
  clear ca0 ca1
  clear cb0 cb1
  have L13 : Hid (x12.heap.size ≤ x13.heap.size) := b13.size
  have B13 : Hid (Below w.heap.size w x13) := B12.out.trans (b13.mono B12.out.size)
  have KA0_13 : Hid (Blk x13 ga0 24 [.slice S0.seed.a S0.seed.n S0.seed.c, .int .i64 D0.num]) := KA0_12.out.later b13
  have Ow0r_13 : Hid (DiOwn x13 x3.heap.size x4.heap.size Sw0 R0) := Ow0r_12.out.later b13
  have Kw0_13 : Hid (Blk x13 gw0 27 [.slice Sw0.seed.a Sw0.seed.n Sw0.seed.c, .int .i64 R0.num]) := Kw0_12.out.later b13
  have Og0r_13 : Hid (DiOwn x13 x7.heap.size x8.heap.size Sg0 R0) := Og0r_12.out.later b13
  have Kg0_13 : Hid (Blk x13 gg0 27 [.slice Sg0.seed.a Sg0.seed.n Sg0.seed.c, .int .i64 R0.num]) := Kg0_12.out.later b13
  clear b13 B12 KA0_12 Ow0r_12 Kw0_12 Og0r_12 Kg0_12
  have hms0 : (diSum Sg0 : Int) ≤ 1048576 := by have := di_sum_le Og0r_13.out.rd HRS0.out; omega
  have ca0 := Kg0_13.out.cell 0 rfl
  have ca1 := Kg0_13.out.cell 1 rfl
  go_wp2_with fail
  refine (markDice Sg0 R0 (1 : Int) x13 x7.heap.size x8.heap.size Og0r_13.out (by have := L1.out; have := Gga.out; have := L2.out; have := L3.out; have := L4.out; have := L5.out; have := Gw_.out; have := L6.out; have := L7.out; have := Ggx0.out; have := L8.out; have := L9.out; have := Gg_.out; have := L10.out; have := L11.out; have := L12.out; have := L13.out; omega) (by omega) (by omega)).mono ?_
  rintro e x14 ⟨rfl, og, k14⟩
  clear ca0 ca1
  have L14 : Hid (x13.heap.size ≤ x14.heap.size) := k14.size
  have B14 : Hid (Below w.heap.size w x14) := B13.out.trans (k14.below (by have := L1.out; have := Gga.out; have := L2.out; have := L3.out; have := L4.out; have := L5.out; have := Gw_.out; have := L6.out; have := L7.out; have := Ggx0.out; have := L8.out; have := L9.out; have := Gg_.out; have := L10.out; have := L11.out; have := L12.out; have := L13.out; have := L14.out; omega) B13.out.size)
  have KA0_14 : Hid (Blk x14 ga0 24 [.slice S0.seed.a S0.seed.n S0.seed.c, .int .i64 D0.num]) := KA0_13.out.keep (k14.block _ KA0_13.out.lt (by have := L1.out; have := Gga.out; have := L2.out; have := L3.out; have := L4.out; have := L5.out; have := Gw_.out; have := L6.out; have := L7.out; have := Ggx0.out; have := L8.out; have := L9.out; have := Gg_.out; have := L10.out; have := L11.out; have := L12.out; have := L13.out; have := L14.out; omega))
  have Ow0r_14 : Hid (DiOwn x14 x3.heap.size x4.heap.size Sw0 R0) := Ow0r_13.out.carry k14 (by have := L1.out; have := Gga.out; have := L2.out; have := L3.out; have := L4.out; have := L5.out; have := Gw_.out; have := L6.out; have := L7.out; have := Ggx0.out; have := L8.out; have := L9.out; have := Gg_.out; have := L10.out; have := L11.out; have := L12.out; have := L13.out; have := L14.out; omega)
  have Kw0_14 : Hid (Blk x14 gw0 27 [.slice Sw0.seed.a Sw0.seed.n Sw0.seed.c, .int .i64 R0.num]) := Kw0_13.out.keep (k14.block _ Kw0_13.out.lt (by have := L1.out; have := Gga.out; have := L2.out; have := L3.out; have := L4.out; have := L5.out; have := Gw_.out; have := L6.out; have := L7.out; have := Ggx0.out; have := L8.out; have := L9.out; have := Gg_.out; have := L10.out; have := L11.out; have := L12.out; have := L13.out; have := L14.out; omega))
  have Kg0_14 : Hid (Blk x14 gg0 27 [.slice Sg0.seed.a Sg0.seed.n Sg0.seed.c, .int .i64 R0.num]) := Kg0_13.out.keep (k14.block _ Kg0_13.out.lt (by have := L1.out; have := Gga.out; have := L2.out; have := L3.out; have := L4.out; have := L5.out; have := Gw_.out; have := L6.out; have := L7.out; have := Ggx0.out; have := L8.out; have := L9.out; have := Gg_.out; have := L10.out; have := L11.out; have := L12.out; have := L13.out; have := L14.out; omega))
  clear k14 B13 KA0_13 Ow0r_13 Kw0_13 Og0r_13 Kg0_13
  have Og0r_14 : Hid (DiOwn x14 x7.heap.size x8.heap.size Sg0 (diMarks (1 : Int) Sg0 R0)) := og
  clear og
  have hmm : (((1 : Int) + (diSum Sg0 : Int)) != ((1 : Int) + (diSum Sg0 : Int))) = false := by simp
  have ca0 := Kg0_14.out.cell 0 rfl
  have ca1 := Kg0_14.out.cell 1 rfl
  go_wp2_with fail
  refine (heldDice Sg0 R0 (1 : Int) x14 Og0r_14.out.rd (by omega) (by omega)).mono ?_
  rintro e x15 ⟨rfl, b15⟩
  clear ca0 ca1
  have L15 : Hid (x14.heap.size ≤ x15.heap.size) := b15.size
  have B15 : Hid (Below w.heap.size w x15) := B14.out.trans (b15.mono B14.out.size)
  have KA0_15 : Hid (Blk x15 ga0 24 [.slice S0.seed.a S0.seed.n S0.seed.c, .int .i64 D0.num]) := KA0_14.out.later b15
  have Ow0r_15 : Hid (DiOwn x15 x3.heap.size x4.heap.size Sw0 R0) := Ow0r_14.out.later b15
  have Kw0_15 : Hid (Blk x15 gw0 27 [.slice Sw0.seed.a Sw0.seed.n Sw0.seed.c, .int .i64 R0.num]) := Kw0_14.out.later b15
  have Kg0_15 : Hid (Blk x15 gg0 27 [.slice Sg0.seed.a Sg0.seed.n Sg0.seed.c, .int .i64 R0.num]) := Kg0_14.out.later b15
  have Og0r_15 : Hid (DiOwn x15 x7.heap.size x8.heap.size Sg0 (diMarks (1 : Int) Sg0 R0)) := Og0r_14.out.later b15
  clear b15 B14 KA0_14 Ow0r_14 Kw0_14 Kg0_14 Og0r_14
  have hq15_0 : ¬ ((1 : Int) + (diSum Sg0 : Int) < 0) := by omega
  have c0 := KA0_15.out.cell 0 rfl
  have c1 := KA0_15.out.cell 1 rfl
  go_wp2_with fail
  refine (toDice S0 D0 x15 (HR0.out.later B15.out) HLL0.out).mono ?_
  rintro e x16 ⟨Sy0, rfl, o, b16⟩
  clear c0 c1
  have L16 : Hid (x15.heap.size ≤ x16.heap.size) := b16.size
  have B16 : Hid (Below w.heap.size w x16) := B15.out.trans (b16.mono B15.out.size)
  have KA0_16 : Hid (Blk x16 ga0 24 [.slice S0.seed.a S0.seed.n S0.seed.c, .int .i64 D0.num]) := KA0_15.out.later b16
  have Ow0r_16 : Hid (DiOwn x16 x3.heap.size x4.heap.size Sw0 R0) := Ow0r_15.out.later b16
  have Kw0_16 : Hid (Blk x16 gw0 27 [.slice Sw0.seed.a Sw0.seed.n Sw0.seed.c, .int .i64 R0.num]) := Kw0_15.out.later b16
  have Kg0_16 : Hid (Blk x16 gg0 27 [.slice Sg0.seed.a Sg0.seed.n Sg0.seed.c, .int .i64 R0.num]) := Kg0_15.out.later b16
  have Og0r_16 : Hid (DiOwn x16 x7.heap.size x8.heap.size Sg0 (diMarks (1 : Int) Sg0 R0)) := Og0r_15.out.later b16
  clear b16 B15 KA0_15 Ow0r_15 Kw0_15 Kg0_15 Og0r_15
  have Oy0_16 : Hid (DiOwn x16 x15.heap.size x16.heap.size Sy0 D0) := o
  clear o
  go_wp2_with fail
  refine (DiI.implWind Sy0 D0 a1 x16 Oy0_16.out.rd HLL0.out.seed).mono ?_
  rw [HRD0.out]
  rintro e x17 ⟨Sh0, rfl, o0, b⟩
  have L17 : Hid (x16.heap.size ≤ x17.heap.size) := b.size
  have B17 : Hid (Below w.heap.size w x17) := B16.out.trans (b.mono B16.out.size)
  have KA0_17 : Hid (Blk x17 ga0 24 [.slice S0.seed.a S0.seed.n S0.seed.c, .int .i64 D0.num]) := KA0_16.out.later b
  have Ow0r_17 : Hid (DiOwn x17 x3.heap.size x4.heap.size Sw0 R0) := Ow0r_16.out.later b
  have Kw0_17 : Hid (Blk x17 gw0 27 [.slice Sw0.seed.a Sw0.seed.n Sw0.seed.c, .int .i64 R0.num]) := Kw0_16.out.later b
  have Kg0_17 : Hid (Blk x17 gg0 27 [.slice Sg0.seed.a Sg0.seed.n Sg0.seed.c, .int .i64 R0.num]) := Kg0_16.out.later b
  have Og0r_17 : Hid (DiOwn x17 x7.heap.size x8.heap.size Sg0 (diMarks (1 : Int) Sg0 R0)) := Og0r_16.out.later b
  have Oy0_17 : Hid (DiOwn x17 x15.heap.size x16.heap.size Sy0 D0) := Oy0_16.out.later b
  clear b B16 KA0_16 Ow0r_16 Kw0_16 Kg0_16 Og0r_16 Oy0_16
  have Oh0r_17 : Hid (DiOwn x17 x16.heap.size x17.heap.size Sh0 R0) := o0
  clear o0
  obtain ⟨x18, hx18⟩ : ∃ x18, x17.alloc (.cells #[.slice Sh0.seed.a Sh0.seed.n Sh0.seed.c, .int .i64 R0.num] 27) = x18 := ⟨_, rfl⟩
  have HW18 : Hid (x17.alloc (.cells #[.slice Sh0.seed.a Sh0.seed.n Sh0.seed.c, .int .i64 R0.num] 27) = x18) := hx18
  have b : Below x17.heap.size x17 x18 := by rw [← hx18]; exact (Below.refl _ _).alloc (Nat.le_refl _) _
  have KN0 : Blk x18 (x17.heap.size) 27 [.slice Sh0.seed.a Sh0.seed.n Sh0.seed.c, .int .i64 R0.num] := by
    have q := Blk.new (x17) 27 [.slice Sh0.seed.a Sh0.seed.n Sh0.seed.c, .int .i64 R0.num]
    rw [← hx18]; exact q
  have HSZ18 : Hid (x18.heap.size = x17.heap.size + 1) := by rw [← hx18]; show _ = _; simp
  clear hx18
  have L18 : Hid (x17.heap.size ≤ x18.heap.size) := b.size
  have B18 : Hid (Below w.heap.size w x18) := B17.out.trans (b.mono B17.out.size)
  have KA0_18 : Hid (Blk x18 ga0 24 [.slice S0.seed.a S0.seed.n S0.seed.c, .int .i64 D0.num]) := KA0_17.out.later b
  have Ow0r_18 : Hid (DiOwn x18 x3.heap.size x4.heap.size Sw0 R0) := Ow0r_17.out.later b
  have Kw0_18 : Hid (Blk x18 gw0 27 [.slice Sw0.seed.a Sw0.seed.n Sw0.seed.c, .int .i64 R0.num]) := Kw0_17.out.later b
  have Kg0_18 : Hid (Blk x18 gg0 27 [.slice Sg0.seed.a Sg0.seed.n Sg0.seed.c, .int .i64 R0.num]) := Kg0_17.out.later b
  have Og0r_18 : Hid (DiOwn x18 x7.heap.size x8.heap.size Sg0 (diMarks (1 : Int) Sg0 R0)) := Og0r_17.out.later b
  have Oy0_18 : Hid (DiOwn x18 x15.heap.size x16.heap.size Sy0 D0) := Oy0_17.out.later b
  have Oh0r_18 : Hid (DiOwn x18 x16.heap.size x17.heap.size Sh0 R0) := Oh0r_17.out.later b
  clear b B17 KA0_17 Ow0r_17 Kw0_17 Kg0_17 Og0r_17 Oy0_17 Oh0r_17
  unfold diV
  go_upto_region 25 with fail
  rw [HW18.out]
  obtain ⟨gh0, hg0⟩ : ∃ g, x17.heap.size = g := ⟨_, rfl⟩
  have Gh_ : Hid (x17.heap.size + 0 = gh0 ∧ x18.heap.size = x17.heap.size + 1) := ⟨by omega, HSZ18.out⟩
  rw [hg0] at KN0
  rw [hg0]
  clear HW18 HSZ18 hg0
  have Kh0_18 : Hid (Blk x18 gh0 27 [.slice Sh0.seed.a Sh0.seed.n Sh0.seed.c, .int .i64 R0.num]) := KN0
  clear KN0
  clear Oy0_18
  have ca0 := Kh0_18.out.cell 0 rfl
  have ca1 := Kh0_18.out.cell 1 rfl
  have cb0 := Kw0_18.out.cell 0 rfl
  have cb1 := Kw0_18.out.cell 1 rfl
  go_wp2_with fail
  refine (eqDice Sh0 Sw0 R0 x18 Oh0r_18.out.rd Ow0r_18.out.rd HRL0.out).mono ?_
  rintro e x19 ⟨rfl, b19⟩
  clear ca0 ca1
  clear cb0 cb1
  have L19 : Hid (x18.heap.size ≤ x19.heap.size) := b19.size
  have B19 : Hid (Below w.heap.size w x19) := B18.out.trans (b19.mono B18.out.size)
  have KA0_19 : Hid (Blk x19 ga0 24 [.slice S0.seed.a S0.seed.n S0.seed.c, .int .i64 D0.num]) := KA0_18.out.later b19
  have Ow0r_19 : Hid (DiOwn x19 x3.heap.size x4.heap.size Sw0 R0) := Ow0r_18.out.later b19
  have Kw0_19 : Hid (Blk x19 gw0 27 [.slice Sw0.seed.a Sw0.seed.n Sw0.seed.c, .int .i64 R0.num]) := Kw0_18.out.later b19
  have Kg0_19 : Hid (Blk x19 gg0 27 [.slice Sg0.seed.a Sg0.seed.n Sg0.seed.c, .int .i64 R0.num]) := Kg0_18.out.later b19
  have Og0r_19 : Hid (DiOwn x19 x7.heap.size x8.heap.size Sg0 (diMarks (1 : Int) Sg0 R0)) := Og0r_18.out.later b19
  have Oh0r_19 : Hid (DiOwn x19 x16.heap.size x17.heap.size Sh0 R0) := Oh0r_18.out.later b19
  have Kh0_19 : Hid (Blk x19 gh0 27 [.slice Sh0.seed.a Sh0.seed.n Sh0.seed.c, .int .i64 R0.num]) := Kh0_18.out.later b19
  clear b19 B18 KA0_18 Ow0r_18 Kw0_18 Kg0_18 Og0r_18 Oh0r_18 Kh0_18
  have ca0 := Kg0_19.out.cell 0 rfl
  have ca1 := Kg0_19.out.cell 1 rfl
  go_wp2_with fail
  refine (heldDice Sg0 R0 (1 : Int) x19 Og0r_19.out.rd (by omega) (by omega)).mono ?_
  rintro e x20 ⟨rfl, b20⟩
  clear ca0 ca1
  have L20 : Hid (x19.heap.size ≤ x20.heap.size) := b20.size
  have B20 : Hid (Below w.heap.size w x20) := B19.out.trans (b20.mono B19.out.size)
  have KA0_20 : Hid (Blk x20 ga0 24 [.slice S0.seed.a S0.seed.n S0.seed.c, .int .i64 D0.num]) := KA0_19.out.later b20
  have Ow0r_20 : Hid (DiOwn x20 x3.heap.size x4.heap.size Sw0 R0) := Ow0r_19.out.later b20
  have Kw0_20 : Hid (Blk x20 gw0 27 [.slice Sw0.seed.a Sw0.seed.n Sw0.seed.c, .int .i64 R0.num]) := Kw0_19.out.later b20
  have Kg0_20 : Hid (Blk x20 gg0 27 [.slice Sg0.seed.a Sg0.seed.n Sg0.seed.c, .int .i64 R0.num]) := Kg0_19.out.later b20
  have Og0r_20 : Hid (DiOwn x20 x7.heap.size x8.heap.size Sg0 (diMarks (1 : Int) Sg0 R0)) := Og0r_19.out.later b20
  have Oh0r_20 : Hid (DiOwn x20 x16.heap.size x17.heap.size Sh0 R0) := Oh0r_19.out.later b20
  have Kh0_20 : Hid (Blk x20 gh0 27 [.slice Sh0.seed.a Sh0.seed.n Sh0.seed.c, .int .i64 R0.num]) := Kh0_19.out.later b20
  clear b20 B19 KA0_19 Ow0r_19 Kw0_19 Kg0_19 Og0r_19 Oh0r_19 Kh0_19
  have hq20_0 : ¬ ((1 : Int) + (diSum Sg0 : Int) < 0) := by omega
  go_wp2
  go_ret
  exact ⟨rfl, B20.out⟩
end Go.Proofs.Ytcodonnknepkeaa.LawWind
