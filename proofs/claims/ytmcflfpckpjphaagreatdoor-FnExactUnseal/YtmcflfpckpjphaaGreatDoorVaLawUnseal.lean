/-
  The walk of the law FnExactUnseal: at every argument it answers true, and nothing that was there is written.
-/
import Derived.Test.YtmcflfpckpjphaaGreatDoorVaUnsI
import Derived.Test.YtmcflfpckpjphaaGreatDoorVaUnsS
import Derived.Test.YtmcflfpckpjphaaGreatDoorVaBas7
import Derived.Test.YtmcflfpckpjphaaGreatDoorVaBas1
set_option maxRecDepth 100000
namespace Go.Proofs.YtmcflfpckpjphaaGreatDoor.LawUnseal
open Go.RowKit Mem Blk Zone ZoneB ZoneI MemI Each Copy Ops Shp App FrZ FrL FrP FrG FrQ SlP SlQ Comp

set_option maxHeartbeats 8000000 in
theorem walk (s0 : Sl) (l0 : List Int) (a1 : Int) (D2 : FrD) (S2 : FrS) (w : World) (hT : Tab w) (h0 : SRd w s0 l0) (h2 : FrRd w S2 D2) (m2 : FrSmall S2) :
  Calls Tryz.prog 8 #[.slice s0.a s0.n s0.c, .int .i64 a1, frV D2 S2] w fun e w' => e = .returned (.bool true) ∧ Below w.heap.size w w' := by
 obtain ⟨R0, hR0⟩ : ∃ R : List Int, unsealL l0 a1 D2 = R := ⟨_, rfl⟩
 have HRD0 : Hid (unsealL l0 a1 D2 = R0) := hR0
 clear hR0
 obtain ⟨R1, hR1⟩ : ∃ R : Bool, unsealB l0 a1 D2 = R := ⟨_, rfl⟩
 have HRD1 : Hid (unsealB l0 a1 D2 = R1) := hR1
 clear hR1
 have hvv1 : (R1 != R1) = false := by simp
 have HT := hid (hT)
 clear hT
 have HR0 := hid (h0)
 have HN0 : Hid (s0.n = l0.length) := h0.len
 have HR2 := hid (h2)
 have HM2 : Hid (FrSmall S2) := m2
 clear h0 h2 m2
 obtain ⟨x1, hx1⟩ : ∃ x1, w.alloc (.cells #[.int .i64 D2.kind, .int .i64 D2.id, .slice S2.cn.a S2.cn.n S2.cn.c, .slice S2.sn.a S2.sn.n S2.sn.c, .int .i64 D2.tick, .slice S2.cookie.a S2.cookie.n S2.cookie.c, .slice S2.proof.a S2.proof.n S2.proof.c, .int .i64 D2.epoch, .int .i64 D2.seq, .slice S2.body.a S2.body.n S2.body.c, .slice S2.tag.a S2.tag.n S2.tag.c] 59) = x1 := ⟨_, rfl⟩
 have HW0 := hid (hx1)
 have b1 : Below w.heap.size w x1 := by rw [← hx1]; exact (Below.refl _ _).alloc (Nat.le_refl _) _
 have KN2 : Blk x1 (w.heap.size) 59 [.int .i64 D2.kind, .int .i64 D2.id, .slice S2.cn.a S2.cn.n S2.cn.c, .slice S2.sn.a S2.sn.n S2.sn.c, .int .i64 D2.tick, .slice S2.cookie.a S2.cookie.n S2.cookie.c, .slice S2.proof.a S2.proof.n S2.proof.c, .int .i64 D2.epoch, .int .i64 D2.seq, .slice S2.body.a S2.body.n S2.body.c, .slice S2.tag.a S2.tag.n S2.tag.c] := by
  have q := Blk.new (w) 59 [.int .i64 D2.kind, .int .i64 D2.id, .slice S2.cn.a S2.cn.n S2.cn.c, .slice S2.sn.a S2.sn.n S2.sn.c, .int .i64 D2.tick, .slice S2.cookie.a S2.cookie.n S2.cookie.c, .slice S2.proof.a S2.proof.n S2.proof.c, .int .i64 D2.epoch, .int .i64 D2.seq, .slice S2.body.a S2.body.n S2.body.c, .slice S2.tag.a S2.tag.n S2.tag.c]
  rw [← hx1]; exact q
 have SZ1 : x1.heap.size = w.heap.size + 1 := by rw [← hx1]; simp
 clear hx1
 have L1 := hid (b1.size)
 have B1 := hid (b1)
 clear b1
 unfold frV
 go_enter Tryz.func8, Tryz.ntmps8
 go_upto_region 1 with fail
 rw [HW0.out]
 obtain ⟨ga2, hga2⟩ : ∃ g, w.heap.size = g := ⟨_, rfl⟩
 have Gga : Hid (w.heap.size + 0 = ga2 ∧ x1.heap.size = w.heap.size + 1) := ⟨by omega, SZ1⟩
 rw [hga2] at KN2
 rw [hga2]
 clear HW0 SZ1 hga2
 have KA2_1 := hid (KN2)
 clear KN2
 by_cases hbig0 : (s0.n : Int) > 1048576
 ·
  go_wp2
  go_ret
  exact ⟨rfl, B1.out⟩
 have HL0 : Hid (l0.length ≤ 1048576) := by have := HN0.out; show _ ≤ _; omega
 obtain ⟨c0, c1, c2, c3, c4, c5, c6, c7, c8, c9, c10⟩ := cells11 KA2_1.out
 go_wp2_with fail
 refine (szFrame S2 D2 (1048576 : Int) x1 HM2.out (by omega) (by omega)).mono ?_
 rintro e x2 ⟨rfl, b2⟩
 clear c0 c1 c2 c3 c4 c5 c6 c7 c8 c9 c10
 have L2 := hid (b2.size)
 have B2 := hid (B1.out.trans (b2.mono B1.out.size))
 have KA2_2 := hid (KA2_1.out.later b2)
 clear b2 B1 KA2_1
 by_cases hsum2 : (1048576 : Int) - (frSum S2 : Int) < 0
 ·
  rw [if_pos hsum2]
  go_wp2
  go_ret
  exact ⟨rfl, B2.out⟩
 rw [if_neg hsum2]
 have HL2 : Hid (FrShort D2 1048576) := fr_short_of HR2.out (by omega)
 have HLL2 : Hid (FrShort D2 4194304) := fr_short_le HL2.out (by omega)
 have HRS0 : Hid (R0.length ≤ 1048576) := by rw [← HRD0.out]; exact Nat.le_trans (unsealL_le _ _ _) (by omega)
 have BX := hid (B2.out)
 have TD : Hid (Below x2.heap.size x2 x2.drew) := (Below.refl _ _).drew
 have HLB0 : Hid (l0.length ≤ 4194304) := by have := HL0.out; show _ ≤ _; omega
 obtain ⟨dz2_0, dz2_1, dz2_2, dz2_3, dz2_4, dz2_5, dz2_6, dz2_7, dz2_8, dz2_9, dz2_10⟩ := cells11 KA2_2.out
 go_upto_region 7 with fail
 go_region_held3 (fun w' => w'.cell? ⟨ga2, 0, none⟩ = some (.int .i64 D2.kind) ∧ w'.cell? ⟨ga2, 1, none⟩ = some (.int .i64 D2.id) ∧ w'.cell? ⟨ga2, 2, none⟩ = some (.slice S2.cn.a S2.cn.n S2.cn.c) ∧ w'.cell? ⟨ga2, 3, none⟩ = some (.slice S2.sn.a S2.sn.n S2.sn.c) ∧ w'.cell? ⟨ga2, 4, none⟩ = some (.int .i64 D2.tick) ∧ w'.cell? ⟨ga2, 5, none⟩ = some (.slice S2.cookie.a S2.cookie.n S2.cookie.c) ∧ w'.cell? ⟨ga2, 6, none⟩ = some (.slice S2.proof.a S2.proof.n S2.proof.c) ∧ w'.cell? ⟨ga2, 7, none⟩ = some (.int .i64 D2.epoch) ∧ w'.cell? ⟨ga2, 8, none⟩ = some (.int .i64 D2.seq) ∧ w'.cell? ⟨ga2, 9, none⟩ = some (.slice S2.body.a S2.body.n S2.body.c) ∧ w'.cell? ⟨ga2, 10, none⟩ = some (.slice S2.tag.a S2.tag.n S2.tag.c)) (first | exact ⟨dw2_0, dw2_1, dw2_2, dw2_3, dw2_4, dw2_5, dw2_6, dw2_7, dw2_8, dw2_9, dw2_10⟩ | exact ⟨d12_0, d12_1, d12_2, d12_3, d12_4, d12_5, d12_6, d12_7, d12_8, d12_9, d12_10⟩ | exact ⟨d02_0, d02_1, d02_2, d02_3, d02_4, d02_5, d02_6, d02_7, d02_8, d02_9, d02_10⟩ | exact ⟨dz2_0, dz2_1, dz2_2, dz2_3, dz2_4, dz2_5, dz2_6, dz2_7, dz2_8, dz2_9, dz2_10⟩ | go_keep)
  (first
  | (go_at_call 42; refine (UnsS.specUnseal ⟨some ⟨x2.drew.heap.size, 0, none⟩, s0.n, s0.n⟩ l0 a1 Sw2 D2 yw1 Ow0_p.out.rd Ow2_.out.rd HL0.out).mono ?_; rw [HRD0.out, HRD1.out]; rintro e x3 ⟨Sw0, rfl, o0, b⟩; have Twz : Hid (Below x2.heap.size x2 x3) := (Tw1.out).trans (b.mono (Tw1.out).size); have Lwz : Hid (x2.heap.size ≤ yw1.heap.size) := (Tw1.out).size; have dw2_0 := (KA2_2.out.later Twz.out).cell 0 rfl; have dw2_1 := (KA2_2.out.later Twz.out).cell 1 rfl; have dw2_2 := (KA2_2.out.later Twz.out).cell 2 rfl; have dw2_3 := (KA2_2.out.later Twz.out).cell 3 rfl; have dw2_4 := (KA2_2.out.later Twz.out).cell 4 rfl; have dw2_5 := (KA2_2.out.later Twz.out).cell 5 rfl; have dw2_6 := (KA2_2.out.later Twz.out).cell 6 rfl; have dw2_7 := (KA2_2.out.later Twz.out).cell 7 rfl; have dw2_8 := (KA2_2.out.later Twz.out).cell 8 rfl; have dw2_9 := (KA2_2.out.later Twz.out).cell 9 rfl; have dw2_10 := (KA2_2.out.later Twz.out).cell 10 rfl; clear b)
  | (go_at_call 43; refine (toFrame S2 D2 yw0 (HR2.out.later (BX.out.trans (Tw0.out.mono BX.out.size))) HLL2.out).mono ?_; rintro e yw1 ⟨Sw2, rfl, o, b⟩; have Ow2_ := hid (o); have Tw1 : Hid (Below x2.heap.size x2 yw1) := (Tw0.out).trans (b.mono (Tw0.out).size); have Ow0_p := hid (Ow0_.out.later b); have d12_0 := (KA2_2.out.later Tw1.out).cell 0 rfl; have d12_1 := (KA2_2.out.later Tw1.out).cell 1 rfl; have d12_2 := (KA2_2.out.later Tw1.out).cell 2 rfl; have d12_3 := (KA2_2.out.later Tw1.out).cell 3 rfl; have d12_4 := (KA2_2.out.later Tw1.out).cell 4 rfl; have d12_5 := (KA2_2.out.later Tw1.out).cell 5 rfl; have d12_6 := (KA2_2.out.later Tw1.out).cell 6 rfl; have d12_7 := (KA2_2.out.later Tw1.out).cell 7 rfl; have d12_8 := (KA2_2.out.later Tw1.out).cell 8 rfl; have d12_9 := (KA2_2.out.later Tw1.out).cell 9 rfl; have d12_10 := (KA2_2.out.later Tw1.out).cell 10 rfl; clear o b)
  | (go_at_call 35; refine (toB s0 l0 x2.drew (HR0.out.later (BX.out.trans (TD.out.mono BX.out.size))) HLB0.out).mono ?_; rintro e yw0 ⟨rfl, o, b⟩; have Ow0_ := hid (o); have Tw0 : Hid (Below x2.heap.size x2 yw0) := (TD.out).trans (b.mono (TD.out).size); have d02_0 := (KA2_2.out.later Tw0.out).cell 0 rfl; have d02_1 := (KA2_2.out.later Tw0.out).cell 1 rfl; have d02_2 := (KA2_2.out.later Tw0.out).cell 2 rfl; have d02_3 := (KA2_2.out.later Tw0.out).cell 3 rfl; have d02_4 := (KA2_2.out.later Tw0.out).cell 4 rfl; have d02_5 := (KA2_2.out.later Tw0.out).cell 5 rfl; have d02_6 := (KA2_2.out.later Tw0.out).cell 6 rfl; have d02_7 := (KA2_2.out.later Tw0.out).cell 7 rfl; have d02_8 := (KA2_2.out.later Tw0.out).cell 8 rfl; have d02_9 := (KA2_2.out.later Tw0.out).cell 9 rfl; have d02_10 := (KA2_2.out.later Tw0.out).cell 10 rfl; clear o b))
 clear dz2_0 dz2_1 dz2_2 dz2_3 dz2_4 dz2_5 dz2_6 dz2_7 dz2_8 dz2_9 dz2_10 dw2_0 dw2_1 dw2_2 dw2_3 dw2_4 dw2_5 dw2_6 dw2_7 dw2_8 dw2_9 dw2_10 d02_0 d02_1 d02_2 d02_3 d02_4 d02_5 d02_6 d02_7 d02_8 d02_9 d02_10 d12_0 d12_1 d12_2 d12_3 d12_4 d12_5 d12_6 d12_7 d12_8 d12_9 d12_10
 have b := Twz.out
 have L3 := hid (b.size)
 have B3 := hid (B2.out.trans (b.mono B2.out.size))
 have KA2_3 := hid (KA2_2.out.later b)
 clear b B2 KA2_2
 clear BX TD HLB0
 have Ow0r_3 := hid (o0)
 clear o0
 go_upto_region 8 with fail
 go_wp2_with fail
 refine (toB s0 l0 x3 (HR0.out.later B3.out) (by have := HL0.out; omega)).mono ?_
 rintro e x4 ⟨rfl, o, b4⟩
 obtain ⟨qx0, hq⟩ : ∃ q, x3.heap.size = q := ⟨_, rfl⟩
 rw [hq] at o ⊢
 have L4 := hid (b4.size)
 have B4 := hid (B3.out.trans (b4.mono B3.out.size))
 have KA2_4 := hid (KA2_3.out.later b4)
 have Ow0r_4 := hid (Ow0r_3.out.later b4)
 clear b4 B3 KA2_3 Ow0r_3
 have Gqx0 : Hid (x3.heap.size = qx0) := hq
 have Ox0_4 := hid (o)
 clear o hq
 obtain ⟨c0, c1, c2, c3, c4, c5, c6, c7, c8, c9, c10⟩ := cells11 KA2_4.out
 go_wp2_with fail
 refine (toFrame S2 D2 x4 (HR2.out.later B4.out) HLL2.out).mono ?_
 rintro e x5 ⟨Sx2, rfl, o, b5⟩
 clear c0 c1 c2 c3 c4 c5 c6 c7 c8 c9 c10
 have L5 := hid (b5.size)
 have B5 := hid (B4.out.trans (b5.mono B4.out.size))
 have KA2_5 := hid (KA2_4.out.later b5)
 have Ow0r_5 := hid (Ow0r_4.out.later b5)
 have Ox0_5 := hid (Ox0_4.out.later b5)
 clear b5 B4 KA2_4 Ow0r_4 Ox0_4
 have Ox2_5 := hid (o)
 clear o
 obtain ⟨x6, hx6⟩ : ∃ x6, x5.alloc (.cells #[.int .i64 D2.kind, .int .i64 D2.id, .slice Sx2.cn.a Sx2.cn.n Sx2.cn.c, .slice Sx2.sn.a Sx2.sn.n Sx2.sn.c, .int .i64 D2.tick, .slice Sx2.cookie.a Sx2.cookie.n Sx2.cookie.c, .slice Sx2.proof.a Sx2.proof.n Sx2.proof.c, .int .i64 D2.epoch, .int .i64 D2.seq, .slice Sx2.body.a Sx2.body.n Sx2.body.c, .slice Sx2.tag.a Sx2.tag.n Sx2.tag.c] 27) = x6 := ⟨_, rfl⟩
 have HW6 := hid (hx6)
 have b6 : Below x5.heap.size x5 x6 := by rw [← hx6]; exact (Below.refl _ _).alloc (Nat.le_refl _) _
 have KN : Blk x6 x5.heap.size 27 [.int .i64 D2.kind, .int .i64 D2.id, .slice Sx2.cn.a Sx2.cn.n Sx2.cn.c, .slice Sx2.sn.a Sx2.sn.n Sx2.sn.c, .int .i64 D2.tick, .slice Sx2.cookie.a Sx2.cookie.n Sx2.cookie.c, .slice Sx2.proof.a Sx2.proof.n Sx2.proof.c, .int .i64 D2.epoch, .int .i64 D2.seq, .slice Sx2.body.a Sx2.body.n Sx2.body.c, .slice Sx2.tag.a Sx2.tag.n Sx2.tag.c] := by rw [← hx6]; exact Blk.new x5 _ _
 have HSZ6 : Hid (x6.heap.size = x5.heap.size + 1) := by rw [← hx6]; show _ = _; simp
 clear hx6
 have L6 := hid (b6.size)
 have B6 := hid (B5.out.trans (b6.mono B5.out.size))
 have KA2_6 := hid (KA2_5.out.later b6)
 have Ow0r_6 := hid (Ow0r_5.out.later b6)
 have Ox0_6 := hid (Ox0_5.out.later b6)
 have Ox2_6 := hid (Ox2_5.out.later b6)
 clear b6 B5 KA2_5 Ow0r_5 Ox0_5 Ox2_5
 unfold frV
 go_upto_region 10 with fail
 rw [HW6.out]
 obtain ⟨gx2, hgx2⟩ : ∃ gx2, x5.heap.size = gx2 := ⟨_, rfl⟩
 have Ggx2 : Hid (x5.heap.size = gx2 ∧ x6.heap.size = gx2 + 1) := ⟨hgx2, by rw [← hgx2]; exact HSZ6.out⟩
 rw [hgx2] at KN ⊢
 clear HW6 HSZ6 hgx2
 have Kx2_6 := hid (KN)
 clear KN
 obtain ⟨cx2_0, cx2_1, cx2_2, cx2_3, cx2_4, cx2_5, cx2_6, cx2_7, cx2_8, cx2_9, cx2_10⟩ := cells11 Kx2_6.out
 go_wp2_with fail
 refine (UnsI.implUnseal ⟨some ⟨qx0, 0, none⟩, s0.n, s0.n⟩ l0 a1 Sx2 D2 x6 (HT.out.later B6.out) Ox0_6.out.rd Ox2_6.out.rd HL0.out).mono ?_
 rw [HRD0.out, HRD1.out]
 rintro e x7 ⟨Sg0, rfl, o0, b⟩
 clear cx2_0 cx2_1 cx2_2 cx2_3 cx2_4 cx2_5 cx2_6 cx2_7 cx2_8 cx2_9 cx2_10
 have L7 := hid (b.size)
 have B7 := hid (B6.out.trans (b.mono B6.out.size))
 have KA2_7 := hid (KA2_6.out.later b)
 have Ow0r_7 := hid (Ow0r_6.out.later b)
 have Ox0_7 := hid (Ox0_6.out.later b)
 have Ox2_7 := hid (Ox2_6.out.later b)
 have Kx2_7 := hid (Kx2_6.out.later b)
 clear b B6 KA2_6 Ow0r_6 Ox0_6 Ox2_6 Kx2_6
 have Og0r_7 := hid (o0)
 clear o0
 go_upto_region 11 with fail
 go_wp2_with fail
 refine (eqB Sg0 Sw0 R0 R0 x7 Og0r_7.out.rd Ow0r_7.out.rd (by have := HRS0.out; omega) (by have := HRS0.out; omega)).mono ?_
 rw [decide_eq_true (show R0 = R0 from rfl)]
 rintro e x8 ⟨rfl, b8⟩
 have L8 := hid (b8.size)
 have B8 := hid (B7.out.trans (b8.mono B7.out.size))
 have KA2_8 := hid (KA2_7.out.later b8)
 have Ow0r_8 := hid (Ow0r_7.out.later b8)
 have Ox0_8 := hid (Ox0_7.out.later b8)
 have Ox2_8 := hid (Ox2_7.out.later b8)
 have Kx2_8 := hid (Kx2_7.out.later b8)
 have Og0r_8 := hid (Og0r_7.out.later b8)
 clear b8 B7 KA2_7 Ow0r_7 Ox0_7 Ox2_7 Kx2_7 Og0r_7
 go_wp2_with fail
 refine (toB s0 l0 x8 (HR0.out.later B8.out) (by have := HL0.out; omega)).mono ?_
 rintro e x9 ⟨rfl, o, b9⟩
 obtain ⟨qy0, hq⟩ : ∃ q, x8.heap.size = q := ⟨_, rfl⟩
 rw [hq] at o ⊢
 have L9 := hid (b9.size)
 have B9 := hid (B8.out.trans (b9.mono B8.out.size))
 have KA2_9 := hid (KA2_8.out.later b9)
 have Ow0r_9 := hid (Ow0r_8.out.later b9)
 have Ox0_9 := hid (Ox0_8.out.later b9)
 have Ox2_9 := hid (Ox2_8.out.later b9)
 have Kx2_9 := hid (Kx2_8.out.later b9)
 have Og0r_9 := hid (Og0r_8.out.later b9)
 clear b9 B8 KA2_8 Ow0r_8 Ox0_8 Ox2_8 Kx2_8 Og0r_8
 have Gqy0 : Hid (x8.heap.size = qy0) := hq
 have Oy0_9 := hid (o)
 clear o hq
 go_wp2_with fail
 refine (eqB ⟨some ⟨qx0, 0, none⟩, s0.n, s0.n⟩ ⟨some ⟨qy0, 0, none⟩, s0.n, s0.n⟩ l0 l0 x9 Ox0_9.out.rd Oy0_9.out.rd (by have := HL0.out; omega) (by have := HL0.out; omega)).mono ?_
 rw [decide_eq_true (show l0 = l0 from rfl)]
 rintro e x10 ⟨rfl, b10⟩
 have L10 := hid (b10.size)
 have B10 := hid (B9.out.trans (b10.mono B9.out.size))
 have KA2_10 := hid (KA2_9.out.later b10)
 have Ow0r_10 := hid (Ow0r_9.out.later b10)
 have Ox0_10 := hid (Ox0_9.out.later b10)
 have Ox2_10 := hid (Ox2_9.out.later b10)
 have Kx2_10 := hid (Kx2_9.out.later b10)
 have Og0r_10 := hid (Og0r_9.out.later b10)
 have Oy0_10 := hid (Oy0_9.out.later b10)
 clear b10 B9 KA2_9 Ow0r_9 Ox0_9 Ox2_9 Kx2_9 Og0r_9 Oy0_9
 clear Oy0_10
 go_upto_region 15 with fail
 go_cut [65] from 61 to 64 (fun sv wx => sv = .bool false ∧ Below x10.heap.size x10 wx)
 case first =>
  rename_i J K' hRJ hMet
  generalize hA : Act.mk _ _ = A
  have a5' : A.eval (.tmp 5) = .pointer (some ⟨ga2, 0, none⟩) := by rw [← hA]; rfl
  have a11' : A.eval (.tmp 11) = .pointer (some ⟨gx2, 0, none⟩) := by rw [← hA]; rfl
  have asz : A.tmps.size = 122 := by rw [← hA]; rfl
  have hKA : ∀ wx, Below x10.heap.size x10 wx → Blk wx ga2 59 [.int .i64 D2.kind, .int .i64 D2.id, .slice S2.cn.a S2.cn.n S2.cn.c, .slice S2.sn.a S2.sn.n S2.sn.c, .int .i64 D2.tick, .slice S2.cookie.a S2.cookie.n S2.cookie.c, .slice S2.proof.a S2.proof.n S2.proof.c, .int .i64 D2.epoch, .int .i64 D2.seq, .slice S2.body.a S2.body.n S2.body.c, .slice S2.tag.a S2.tag.n S2.tag.c] := fun wx hb => KA2_10.out.later hb
  have hKB : ∀ wx, Below x10.heap.size x10 wx → Blk wx gx2 27 [.int .i64 D2.kind, .int .i64 D2.id, .slice Sx2.cn.a Sx2.cn.n Sx2.cn.c, .slice Sx2.sn.a Sx2.sn.n Sx2.sn.c, .int .i64 D2.tick, .slice Sx2.cookie.a Sx2.cookie.n Sx2.cookie.c, .slice Sx2.proof.a Sx2.proof.n Sx2.proof.c, .int .i64 D2.epoch, .int .i64 D2.seq, .slice Sx2.body.a Sx2.body.n Sx2.body.c, .slice Sx2.tag.a Sx2.tag.n Sx2.tag.c] := fun wx hb => Kx2_10.out.later hb
  have hRS : ∀ wx, Below x10.heap.size x10 wx → FrRd wx S2 D2 := fun wx hb => HR2.out.later (B10.out.trans (hb.mono B10.out.size))
  have hRT : ∀ wx, Below x10.heap.size x10 wx → FrRd wx Sx2 D2 := fun wx hb => (Ox2_10.out.later hb).rd
  refine region_each (by kernel_rfl) [61, 62, 63, 64] 4 (fun i => [61, 62, 63, 64].getD i 0) (fun _ => 0)
   (fun i gB v wx => match i with
    | 0 => v = .agg #[.int .i64 D2.kind, .int .i64 D2.id, .slice Sx2.cn.a Sx2.cn.n Sx2.cn.c, .slice Sx2.sn.a Sx2.sn.n Sx2.sn.c, .int .i64 D2.tick, .slice Sx2.cookie.a Sx2.cookie.n Sx2.cookie.c, .slice Sx2.proof.a Sx2.proof.n Sx2.proof.c, .int .i64 D2.epoch, .int .i64 D2.seq, .slice Sx2.body.a Sx2.body.n Sx2.body.c, .slice Sx2.tag.a Sx2.tag.n Sx2.tag.c]
    | 1 => v = .agg #[.int .i64 D2.kind, .int .i64 D2.id, .slice S2.cn.a S2.cn.n S2.cn.c, .slice S2.sn.a S2.sn.n S2.sn.c, .int .i64 D2.tick, .slice S2.cookie.a S2.cookie.n S2.cookie.c, .slice S2.proof.a S2.proof.n S2.proof.c, .int .i64 D2.epoch, .int .i64 D2.seq, .slice S2.body.a S2.body.n S2.body.c, .slice S2.tag.a S2.tag.n S2.tag.c]
    | 2 => ∃ S3, v = frV D2 S3 ∧ FrRd wx S3 D2
    | 3 => v = .bool true
    | _ => False) (fun wx => Below x10.heap.size x10 wx) (by kernel_rfl) (Below.refl _ _).drew ?_ ?_ ?_
  ·
   intro i gB v wx wy hi hF hb _
   match i, hi with
   | 0, _ => exact hF
   | 1, _ => exact hF
   | 2, _ => obtain ⟨S3, h0, h1⟩ := hF; exact ⟨S3, h0, h1.later hb⟩
   | 3, _ => exact hF
  ·
   intro i hi t ρ wx hB hp hd
   match i, hi with
   | 0, _ =>
    have e11 : (fr [61, 62, 63, 64] A t).eval (.tmp 11) = .pointer (some ⟨gx2, 0, none⟩) := (fr_eval_old _ _ _ 11 rfl).trans a11'
    obtain ⟨hc0, hc1, hc2, hc3, hc4, hc5, hc6, hc7, hc8, hc9, hc10⟩ := cells11 (hKB wx hB)
    refine op_run (v := .agg #[.int .i64 D2.kind, .int .i64 D2.id, .slice Sx2.cn.a Sx2.cn.n Sx2.cn.c, .slice Sx2.sn.a Sx2.sn.n Sx2.sn.c, .int .i64 D2.tick, .slice Sx2.cookie.a Sx2.cookie.n Sx2.cookie.c, .slice Sx2.proof.a Sx2.proof.n Sx2.proof.c, .int .i64 D2.epoch, .int .i64 D2.seq, .slice Sx2.body.a Sx2.body.n Sx2.body.c, .slice Sx2.tag.a Sx2.tag.n Sx2.tag.c]) (w' := wx) rfl rfl ?_ ?_
    ·
     clear hp hd; have ec : ∀ v, (fr [61, 62, 63, 64] A t).eval (.const v) = v := fun _ => rfl; generalize (fr [61, 62, 63, 64] A t).eval = ev at ec e11 ⊢; go_simp
    ·
     exact ⟨_, 0, rfl, hB, Below.refl _ _, rfl, .inl rfl⟩
   | 1, _ =>
    have e5 : (fr [61, 62, 63, 64] A t).eval (.tmp 5) = .pointer (some ⟨ga2, 0, none⟩) := (fr_eval_old _ _ _ 5 rfl).trans a5'
    obtain ⟨hc0, hc1, hc2, hc3, hc4, hc5, hc6, hc7, hc8, hc9, hc10⟩ := cells11 (hKA wx hB)
    refine op_run (v := .agg #[.int .i64 D2.kind, .int .i64 D2.id, .slice S2.cn.a S2.cn.n S2.cn.c, .slice S2.sn.a S2.sn.n S2.sn.c, .int .i64 D2.tick, .slice S2.cookie.a S2.cookie.n S2.cookie.c, .slice S2.proof.a S2.proof.n S2.proof.c, .int .i64 D2.epoch, .int .i64 D2.seq, .slice S2.body.a S2.body.n S2.body.c, .slice S2.tag.a S2.tag.n S2.tag.c]) (w' := wx) rfl rfl ?_ ?_
    ·
     clear hp hd; have ec : ∀ v, (fr [61, 62, 63, 64] A t).eval (.const v) = v := fun _ => rfl; generalize (fr [61, 62, 63, 64] A t).eval = ev at ec e5 ⊢; go_simp
    ·
     exact ⟨_, 0, rfl, hB, Below.refl _ _, rfl, .inl rfl⟩
   | 2, _ =>
    have e62 : (fr [61, 62, 63, 64] A t).eval (.tmp 62) = .agg #[.int .i64 D2.kind, .int .i64 D2.id, .slice S2.cn.a S2.cn.n S2.cn.c, .slice S2.sn.a S2.sn.n S2.sn.c, .int .i64 D2.tick, .slice S2.cookie.a S2.cookie.n S2.cookie.c, .slice S2.proof.a S2.proof.n S2.proof.c, .int .i64 D2.epoch, .int .i64 D2.seq, .slice S2.body.a S2.body.n S2.body.c, .slice S2.tag.a S2.tag.n S2.tag.c] := (fr_eval _ _ _ 62 rfl (by rw [asz]; decide)).trans (hp 1 (pre_mem (by kernel_rfl)))
    refine op_call (f := 43) (args := #[.agg #[.int .i64 D2.kind, .int .i64 D2.id, .slice S2.cn.a S2.cn.n S2.cn.c, .slice S2.sn.a S2.sn.n S2.sn.c, .int .i64 D2.tick, .slice S2.cookie.a S2.cookie.n S2.cookie.c, .slice S2.proof.a S2.proof.n S2.proof.c, .int .i64 D2.epoch, .int .i64 D2.seq, .slice S2.body.a S2.body.n S2.body.c, .slice S2.tag.a S2.tag.n S2.tag.c]]) rfl rfl ?_ (toFrame S2 D2 wx (hRS wx hB) HLL2.out) ?_
    ·
     have ef : (fr [61, 62, 63, 64] A t).eval (.func 43) = .func (.func 43) #[] #[] := rfl; clear hp hd; have ec : ∀ v, (fr [61, 62, 63, 64] A t).eval (.const v) = v := fun _ => rfl; generalize (fr [61, 62, 63, 64] A t).eval = ev at ec e62 ef ⊢; go_simp
    ·
     rintro e wy ⟨S3, rfl, o3, b1⟩
     exact ⟨_, rfl, _, wx.heap.size, rfl, hB.trans (b1.mono hB.size), b1, ⟨S3, rfl, o3.rd⟩, .inl rfl⟩
   | 3, _ =>
    have e61 : (fr [61, 62, 63, 64] A t).eval (.tmp 61) = .agg #[.int .i64 D2.kind, .int .i64 D2.id, .slice Sx2.cn.a Sx2.cn.n Sx2.cn.c, .slice Sx2.sn.a Sx2.sn.n Sx2.sn.c, .int .i64 D2.tick, .slice Sx2.cookie.a Sx2.cookie.n Sx2.cookie.c, .slice Sx2.proof.a Sx2.proof.n Sx2.proof.c, .int .i64 D2.epoch, .int .i64 D2.seq, .slice Sx2.body.a Sx2.body.n Sx2.body.c, .slice Sx2.tag.a Sx2.tag.n Sx2.tag.c] := (fr_eval _ _ _ 61 rfl (by rw [asz]; decide)).trans (hp 0 (pre_mem (by kernel_rfl)))
    obtain ⟨S32, hv2, q2_0⟩ := hp 2 (pre_mem (by kernel_rfl))
    have e63 : (fr [61, 62, 63, 64] A t).eval (.tmp 63) = frV D2 S32 := (fr_eval _ _ _ 63 rfl (by rw [asz]; decide)).trans hv2
    refine op_call (f := 36) (args := #[.agg #[.int .i64 D2.kind, .int .i64 D2.id, .slice Sx2.cn.a Sx2.cn.n Sx2.cn.c, .slice Sx2.sn.a Sx2.sn.n Sx2.sn.c, .int .i64 D2.tick, .slice Sx2.cookie.a Sx2.cookie.n Sx2.cookie.c, .slice Sx2.proof.a Sx2.proof.n Sx2.proof.c, .int .i64 D2.epoch, .int .i64 D2.seq, .slice Sx2.body.a Sx2.body.n Sx2.body.c, .slice Sx2.tag.a Sx2.tag.n Sx2.tag.c], frV D2 S32]) rfl rfl ?_ (eqFrame Sx2 S32 D2 wx (hRT wx hB) q2_0 HLL2.out) ?_
    ·
     have ef : (fr [61, 62, 63, 64] A t).eval (.func 36) = .func (.func 36) #[] #[] := rfl; clear hp hd q2_0; have ec : ∀ v, (fr [61, 62, 63, 64] A t).eval (.const v) = v := fun _ => rfl; generalize (fr [61, 62, 63, 64] A t).eval = ev at ec e61 e63 ef ⊢; go_simp
    ·
     rintro e wy ⟨rfl, b1⟩
     exact ⟨_, rfl, _, wx.heap.size, rfl, hB.trans (b1.mono hB.size), b1, rfl, .inl rfl⟩
  ·
   intro t ρ wx hB hF hne
   have hv3 := hF 3 (by decide)
   have e64 : (fr [61, 62, 63, 64] A t).eval (.tmp 64) = .bool true := (fr_eval _ _ _ 64 rfl (by rw [asz]; decide)).trans hv3
   clear hne
   refine op_wp rfl rfl ?_
   generalize hE : (fr [61, 62, 63, 64] A t).eval = ev at e64
   unfold Oper.wp
   rw [hE]
   clear hv3
   go_simp
   refine hMet _ _ (Met.intro (hRJ _ _ ⟨t 61, t 62, t 63, t 64, _, ⟨rfl, hB⟩, ?_⟩))
   rw [← hA]; rfl
 case rest =>
 obtain ⟨x11, hq11⟩ : ∃ x11, x11 = wc := ⟨_, rfl⟩
 subst hq11
 obtain ⟨rfl, b11⟩ := hcut
 have L11 := hid (b11.size)
 have B11 := hid (B10.out.trans (b11.mono B10.out.size))
 have KA2_11 := hid (KA2_10.out.later b11)
 have Ow0r_11 := hid (Ow0r_10.out.later b11)
 have Ox0_11 := hid (Ox0_10.out.later b11)
 have Ox2_11 := hid (Ox2_10.out.later b11)
 have Kx2_11 := hid (Kx2_10.out.later b11)
 have Og0r_11 := hid (Og0r_10.out.later b11)
 clear b11 B10 KA2_10 Ow0r_10 Ox0_10 Ox2_10 Kx2_10 Og0r_10
 go_wp2_with fail
 refine (markB ⟨some ⟨qx0, 0, none⟩, s0.n, s0.n⟩ l0 (1 : Int) x11 qx0 x4.heap.size Ox0_11.out (by have := HL0.out; omega) (by omega) (by omega)).mono ?_
 rintro e x12 ⟨rfl, _, k12, _⟩
 have L12 := hid (k12.size)
 have B12 := hid (B11.out.trans (k12.below (by have := hid8 L1 Gga L2 L3 Lwz L4 Gqx0 L5; have := hid8 L6 Ggx2 L7 L8 L9 Gqy0 L10 L11; have := L12.out; omega) B11.out.size))
 have KA2_12 := hid (KA2_11.out.keep (k12.block _ KA2_11.out.lt (by have := hid8 L1 Gga L2 L3 Lwz L4 Gqx0 L5; have := hid8 L6 Ggx2 L7 L8 L9 Gqy0 L10 L11; have := L12.out; omega)))
 have Ow0r_12 := hid (Ow0r_11.out.carry k12 (by have := hid8 L1 Gga L2 L3 Lwz L4 Gqx0 L5; have := hid8 L6 Ggx2 L7 L8 L9 Gqy0 L10 L11; have := L12.out; omega))
 have Ox2_12 := hid (Ox2_11.out.carry k12 (by have := hid8 L1 Gga L2 L3 Lwz L4 Gqx0 L5; have := hid8 L6 Ggx2 L7 L8 L9 Gqy0 L10 L11; have := L12.out; omega))
 have Kx2_12 := hid (Kx2_11.out.keep (k12.block _ Kx2_11.out.lt (by have := hid8 L1 Gga L2 L3 Lwz L4 Gqx0 L5; have := hid8 L6 Ggx2 L7 L8 L9 Gqy0 L10 L11; have := L12.out; omega)))
 have Og0r_12 := hid (Og0r_11.out.carry k12 (by have := hid8 L1 Gga L2 L3 Lwz L4 Gqx0 L5; have := hid8 L6 Ggx2 L7 L8 L9 Gqy0 L10 L11; have := L12.out; omega))
 clear k12 B11 KA2_11 Ow0r_11 Ox0_11 Ox2_11 Kx2_11 Og0r_11
 have hks2 : (frSum Sx2 : Int) ≤ 1048576 := by have := fr_sum_eq HR2.out Ox2_12.out.rd; omega
 obtain ⟨ca0, ca1, ca2, ca3, ca4, ca5, ca6, ca7, ca8, ca9, ca10⟩ := cells11 Kx2_12.out
 go_wp2_with fail
 refine (markFrame Sx2 D2 ((1 : Int) + (s0.n : Int)) x12 x4.heap.size x5.heap.size Ox2_12.out (by have := hid8 L1 Gga L2 L3 Lwz L4 Gqx0 L5; have := hid8 L6 Ggx2 L7 L8 L9 Gqy0 L10 L11; have := L12.out; omega) (by omega) (by omega)).mono ?_
 rintro e x13 ⟨rfl, _, k13⟩
 clear ca0 ca1 ca2 ca3 ca4 ca5 ca6 ca7 ca8 ca9 ca10
 have L13 := hid (k13.size)
 have B13 := hid (B12.out.trans (k13.below (by have := hid8 L1 Gga L2 L3 Lwz L4 Gqx0 L5; have := hid8 L6 Ggx2 L7 L8 L9 Gqy0 L10 L11; have := hid2 L12 L13; omega) B12.out.size))
 have KA2_13 := hid (KA2_12.out.keep (k13.block _ KA2_12.out.lt (by have := hid8 L1 Gga L2 L3 Lwz L4 Gqx0 L5; have := hid8 L6 Ggx2 L7 L8 L9 Gqy0 L10 L11; have := hid2 L12 L13; omega)))
 have Ow0r_13 := hid (Ow0r_12.out.carry k13 (by have := hid8 L1 Gga L2 L3 Lwz L4 Gqx0 L5; have := hid8 L6 Ggx2 L7 L8 L9 Gqy0 L10 L11; have := hid2 L12 L13; omega))
 have Og0r_13 := hid (Og0r_12.out.carry k13 (by have := hid8 L1 Gga L2 L3 Lwz L4 Gqx0 L5; have := hid8 L6 Ggx2 L7 L8 L9 Gqy0 L10 L11; have := hid2 L12 L13; omega))
 clear k13 B12 KA2_12 Ow0r_12 Ox2_12 Kx2_12 Og0r_12
 have hk0 : ¬ ((((1 : Int) + (s0.n : Int)) + (frSum Sx2 : Int)) < 0) := by omega
 go_wp2_with fail
 refine (eqB Sg0 Sw0 R0 R0 x13 Og0r_13.out.rd Ow0r_13.out.rd (by have := HRS0.out; omega) (by have := HRS0.out; omega)).mono ?_
 rw [decide_eq_true (show R0 = R0 from rfl)]
 rintro e x14 ⟨rfl, b14⟩
 have L14 := hid (b14.size)
 have B14 := hid (B13.out.trans (b14.mono B13.out.size))
 have KA2_14 := hid (KA2_13.out.later b14)
 have Ow0r_14 := hid (Ow0r_13.out.later b14)
 have Og0r_14 := hid (Og0r_13.out.later b14)
 clear b14 B13 KA2_13 Ow0r_13 Og0r_13
 have hms0 : (Sg0.n : Int) ≤ 1048576 := by have := Og0r_14.out.len; have := HRS0.out; omega
 go_wp2_with fail
 refine (markB Sg0 R0 (1 : Int) x14 x6.heap.size x7.heap.size Og0r_14.out (by have := HRS0.out; omega) (by omega) (by omega)).mono ?_
 rintro e x15 ⟨rfl, og, k15, _⟩
 have L15 := hid (k15.size)
 have B15 := hid (B14.out.trans (k15.below (by have := hid8 L1 Gga L2 L3 Lwz L4 Gqx0 L5; have := hid8 L6 Ggx2 L7 L8 L9 Gqy0 L10 L11; have := hid4 L12 L13 L14 L15; omega) B14.out.size))
 have KA2_15 := hid (KA2_14.out.keep (k15.block _ KA2_14.out.lt (by have := hid8 L1 Gga L2 L3 Lwz L4 Gqx0 L5; have := hid8 L6 Ggx2 L7 L8 L9 Gqy0 L10 L11; have := hid4 L12 L13 L14 L15; omega)))
 have Ow0r_15 := hid (Ow0r_14.out.carry k15 (by have := hid8 L1 Gga L2 L3 Lwz L4 Gqx0 L5; have := hid8 L6 Ggx2 L7 L8 L9 Gqy0 L10 L11; have := hid4 L12 L13 L14 L15; omega))
 clear k15 B14 KA2_14 Ow0r_14 Og0r_14
 have Og0r_15 := hid (og)
 clear og
 have hmm : (((1 : Int) + (Sg0.n : Int)) != ((1 : Int) + (Sg0.n : Int))) = false := by simp
 go_wp2_with fail
 refine (heldB Sg0 (1 : Int) x15 Og0r_15.out.rd (by omega) (by omega) (by omega)).mono ?_
 rintro e xz ⟨rfl, rfl⟩
 have hq15_0 : ¬ ((1 : Int) + (Sg0.n : Int) < 0) := by omega
 have BX := hid (B15.out)
 have TD : Hid (Below x15.heap.size x15 x15.drew) := (Below.refl _ _).drew
 have HLB0 : Hid (l0.length ≤ 4194304) := by have := HL0.out; show _ ≤ _; omega
 obtain ⟨dz2_0, dz2_1, dz2_2, dz2_3, dz2_4, dz2_5, dz2_6, dz2_7, dz2_8, dz2_9, dz2_10⟩ := cells11 KA2_15.out
 go_upto_region 30 with fail
 go_region_held3 (fun w' => w'.cell? ⟨ga2, 0, none⟩ = some (.int .i64 D2.kind) ∧ w'.cell? ⟨ga2, 1, none⟩ = some (.int .i64 D2.id) ∧ w'.cell? ⟨ga2, 2, none⟩ = some (.slice S2.cn.a S2.cn.n S2.cn.c) ∧ w'.cell? ⟨ga2, 3, none⟩ = some (.slice S2.sn.a S2.sn.n S2.sn.c) ∧ w'.cell? ⟨ga2, 4, none⟩ = some (.int .i64 D2.tick) ∧ w'.cell? ⟨ga2, 5, none⟩ = some (.slice S2.cookie.a S2.cookie.n S2.cookie.c) ∧ w'.cell? ⟨ga2, 6, none⟩ = some (.slice S2.proof.a S2.proof.n S2.proof.c) ∧ w'.cell? ⟨ga2, 7, none⟩ = some (.int .i64 D2.epoch) ∧ w'.cell? ⟨ga2, 8, none⟩ = some (.int .i64 D2.seq) ∧ w'.cell? ⟨ga2, 9, none⟩ = some (.slice S2.body.a S2.body.n S2.body.c) ∧ w'.cell? ⟨ga2, 10, none⟩ = some (.slice S2.tag.a S2.tag.n S2.tag.c)) (first | exact ⟨dw2_0, dw2_1, dw2_2, dw2_3, dw2_4, dw2_5, dw2_6, dw2_7, dw2_8, dw2_9, dw2_10⟩ | exact ⟨d12_0, d12_1, d12_2, d12_3, d12_4, d12_5, d12_6, d12_7, d12_8, d12_9, d12_10⟩ | exact ⟨d02_0, d02_1, d02_2, d02_3, d02_4, d02_5, d02_6, d02_7, d02_8, d02_9, d02_10⟩ | exact ⟨dz2_0, dz2_1, dz2_2, dz2_3, dz2_4, dz2_5, dz2_6, dz2_7, dz2_8, dz2_9, dz2_10⟩ | go_keep)
  (first
  | (go_at_call 16; refine (UnsI.implUnseal ⟨some ⟨x15.drew.heap.size, 0, none⟩, s0.n, s0.n⟩ l0 a1 Sh2 D2 yh1 (HT.out.later (BX.out.trans (Th1.out.mono BX.out.size))) Oh0_p.out.rd Oh2_.out.rd HL0.out).mono ?_; rw [HRD0.out, HRD1.out]; rintro e x16 ⟨Sh0, rfl, o0, b⟩; have Thz : Hid (Below x15.heap.size x15 x16) := (Th1.out).trans (b.mono (Th1.out).size); have Lhz : Hid (x15.heap.size ≤ yh1.heap.size) := (Th1.out).size; have dw2_0 := (KA2_15.out.later Thz.out).cell 0 rfl; have dw2_1 := (KA2_15.out.later Thz.out).cell 1 rfl; have dw2_2 := (KA2_15.out.later Thz.out).cell 2 rfl; have dw2_3 := (KA2_15.out.later Thz.out).cell 3 rfl; have dw2_4 := (KA2_15.out.later Thz.out).cell 4 rfl; have dw2_5 := (KA2_15.out.later Thz.out).cell 5 rfl; have dw2_6 := (KA2_15.out.later Thz.out).cell 6 rfl; have dw2_7 := (KA2_15.out.later Thz.out).cell 7 rfl; have dw2_8 := (KA2_15.out.later Thz.out).cell 8 rfl; have dw2_9 := (KA2_15.out.later Thz.out).cell 9 rfl; have dw2_10 := (KA2_15.out.later Thz.out).cell 10 rfl; clear b)
  | (go_at_call 43; refine (toFrame S2 D2 yh0 (HR2.out.later (BX.out.trans (Th0.out.mono BX.out.size))) HLL2.out).mono ?_; rintro e yh1 ⟨Sh2, rfl, o, b⟩; have Oh2_ := hid (o); have Th1 : Hid (Below x15.heap.size x15 yh1) := (Th0.out).trans (b.mono (Th0.out).size); have Oh0_p := hid (Oh0_.out.later b); have d12_0 := (KA2_15.out.later Th1.out).cell 0 rfl; have d12_1 := (KA2_15.out.later Th1.out).cell 1 rfl; have d12_2 := (KA2_15.out.later Th1.out).cell 2 rfl; have d12_3 := (KA2_15.out.later Th1.out).cell 3 rfl; have d12_4 := (KA2_15.out.later Th1.out).cell 4 rfl; have d12_5 := (KA2_15.out.later Th1.out).cell 5 rfl; have d12_6 := (KA2_15.out.later Th1.out).cell 6 rfl; have d12_7 := (KA2_15.out.later Th1.out).cell 7 rfl; have d12_8 := (KA2_15.out.later Th1.out).cell 8 rfl; have d12_9 := (KA2_15.out.later Th1.out).cell 9 rfl; have d12_10 := (KA2_15.out.later Th1.out).cell 10 rfl; clear o b)
  | (go_at_call 35; refine (toB s0 l0 x15.drew (HR0.out.later (BX.out.trans (TD.out.mono BX.out.size))) HLB0.out).mono ?_; rintro e yh0 ⟨rfl, o, b⟩; have Oh0_ := hid (o); have Th0 : Hid (Below x15.heap.size x15 yh0) := (TD.out).trans (b.mono (TD.out).size); have d02_0 := (KA2_15.out.later Th0.out).cell 0 rfl; have d02_1 := (KA2_15.out.later Th0.out).cell 1 rfl; have d02_2 := (KA2_15.out.later Th0.out).cell 2 rfl; have d02_3 := (KA2_15.out.later Th0.out).cell 3 rfl; have d02_4 := (KA2_15.out.later Th0.out).cell 4 rfl; have d02_5 := (KA2_15.out.later Th0.out).cell 5 rfl; have d02_6 := (KA2_15.out.later Th0.out).cell 6 rfl; have d02_7 := (KA2_15.out.later Th0.out).cell 7 rfl; have d02_8 := (KA2_15.out.later Th0.out).cell 8 rfl; have d02_9 := (KA2_15.out.later Th0.out).cell 9 rfl; have d02_10 := (KA2_15.out.later Th0.out).cell 10 rfl; clear o b))
 clear dz2_0 dz2_1 dz2_2 dz2_3 dz2_4 dz2_5 dz2_6 dz2_7 dz2_8 dz2_9 dz2_10 dw2_0 dw2_1 dw2_2 dw2_3 dw2_4 dw2_5 dw2_6 dw2_7 dw2_8 dw2_9 dw2_10 d02_0 d02_1 d02_2 d02_3 d02_4 d02_5 d02_6 d02_7 d02_8 d02_9 d02_10 d12_0 d12_1 d12_2 d12_3 d12_4 d12_5 d12_6 d12_7 d12_8 d12_9 d12_10
 have b := Thz.out
 have L16 := hid (b.size)
 have B16 := hid (B15.out.trans (b.mono B15.out.size))
 have KA2_16 := hid (KA2_15.out.later b)
 have Ow0r_16 := hid (Ow0r_15.out.later b)
 have Og0r_16 := hid (Og0r_15.out.later b)
 clear b B15 KA2_15 Ow0r_15 Og0r_15
 clear BX TD HLB0
 have Oh0r_16 := hid (o0)
 clear o0
 go_upto_region 31 with fail
 go_wp2_with fail
 refine (eqB Sh0 Sw0 R0 R0 x16 Oh0r_16.out.rd Ow0r_16.out.rd (by have := HRS0.out; omega) (by have := HRS0.out; omega)).mono ?_
 rw [decide_eq_true (show R0 = R0 from rfl)]
 rintro e x17 ⟨rfl, b17⟩
 have L17 := hid (b17.size)
 have B17 := hid (B16.out.trans (b17.mono B16.out.size))
 have KA2_17 := hid (KA2_16.out.later b17)
 have Ow0r_17 := hid (Ow0r_16.out.later b17)
 have Og0r_17 := hid (Og0r_16.out.later b17)
 have Oh0r_17 := hid (Oh0r_16.out.later b17)
 clear b17 B16 KA2_16 Ow0r_16 Og0r_16 Oh0r_16
 go_wp2_with fail
 refine (heldB Sg0 (1 : Int) x17 Og0r_17.out.rd (by omega) (by omega) (by omega)).mono ?_
 rintro e xz ⟨rfl, rfl⟩
 have hq17_0 : ¬ ((1 : Int) + (Sg0.n : Int) < 0) := by omega
 go_wp2
 go_ret
 exact ⟨rfl, B17.out⟩
theorem walk1 (a0 : Option Addr) (n0 c0 : Nat) (z0 : List Int) (a1 : Int) (D2 : FrD) (S2 : FrS) (w : World) (hT : Tab w) (h0 : IsRow .u8 w a0 n0 c0 z0) (h2 : FrRd w S2 D2) (m2 : FrSmall S2) :
  Calls Tryz.prog 8 #[.slice a0 n0 c0, .int .i64 a1, frV D2 S2] w fun e w' => e = .returned (.bool true) ∧ Below w.heap.size w w' := by
 obtain ⟨l0, r0⟩ := row_sl h0
 exact walk ⟨a0, n0, c0⟩ l0 a1 D2 S2 w hT r0 h2 m2
end Go.Proofs.YtmcflfpckpjphaaGreatDoor.LawUnseal
