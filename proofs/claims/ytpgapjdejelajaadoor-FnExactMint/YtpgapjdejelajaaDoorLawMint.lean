/-
  The walk of the law FnExactMint: at every argument it answers true, and nothing that was there is written.
-/
import Derived.Test.YtpgapjdejelajaaDoorCkJ
import Derived.Test.YtpgapjdejelajaaDoorCkT
import Derived.Test.YtpgapjdejelajaaDoorShp
import Derived.Test.YtpgapjdejelajaaDoorOps
import Derived.Test.YtpgapjdejelajaaDoorCa1
import Derived.Test.YtpgapjdejelajaaDoorAddrL
import Derived.Deep.RegionHeld3
namespace Go.Proofs.YtpgapjdejelajaaDoor.LawMint
open Go.RowKit Go.Proofs.YtpgapjdejelajaaDoor.Mem Go.Proofs.YtpgapjdejelajaaDoor.Blk Go.Proofs.YtpgapjdejelajaaDoor.Zone Go.Proofs.YtpgapjdejelajaaDoor.ZoneB Go.Proofs.YtpgapjdejelajaaDoor.ZoneI Go.Proofs.YtpgapjdejelajaaDoor.MemI Go.Proofs.YtpgapjdejelajaaDoor.Each Go.Proofs.YtpgapjdejelajaaDoor.Copy Go.Proofs.YtpgapjdejelajaaDoor.Ops Go.Proofs.YtpgapjdejelajaaDoor.Shp Go.Proofs.YtpgapjdejelajaaDoor.App Go.Proofs.YtpgapjdejelajaaDoor.JaZ Go.Proofs.YtpgapjdejelajaaDoor.JaL Go.Proofs.YtpgapjdejelajaaDoor.CkP Go.Proofs.YtpgapjdejelajaaDoor.CkQ Go.Proofs.YtpgapjdejelajaaDoor.Comp

set_option maxRecDepth 100000 in
set_option maxHeartbeats 8000000 in
theorem walk (D0 : JaD) (S0 : JaS) (ah1 ap1 : Int) (a2 : Int) (s3 : Sl) (l3 : List Int) (s4 : Sl) (l4 : List Int) (a5 : Int) (w : World) (hT : Tab w) (h0 : JaRd w S0 D0) (m0 : JaSmall S0) (h3 : SRd w s3 l3) (h4 : SRd w s4 l4) :
    Calls Tryd.prog 4 #[jaV D0 S0, AddrS.addrV ah1 ap1, .int .i64 a2, .slice s3.a s3.n s3.c, .slice s4.a s4.n s4.c, .int .i64 a5] w fun e w' => e = .returned (.bool true) ∧ Below w.heap.size w w' := by
  obtain ⟨R0, hR0⟩ : ∃ R : List Int, mint D0 ah1 ap1 a2 l3 l4 a5 = R := ⟨_, rfl⟩
  have HRD0 : Hid (mint D0 ah1 ap1 a2 l3 l4 a5 = R0) := hR0
  clear hR0
  have HT : Hid (Tab w) := hT
  clear hT
  have HR0 : Hid (JaRd w S0 D0) := h0
  have HM0 : Hid (JaSmall S0) := m0
  have HR3 : Hid (SRd w s3 l3) := h3
  have HN3 : Hid (s3.n = l3.length) := h3.len
  have HR4 : Hid (SRd w s4 l4) := h4
  have HN4 : Hid (s4.n = l4.length) := h4.len
  clear h0 h3 h4 m0
  obtain ⟨x1, hx1⟩ : ∃ x1, (w.alloc (.cells #[.slice S0.secret.a S0.secret.n S0.secret.c] 32)).alloc (.cells #[.int .i64 ah1, .int .i64 ap1] 34) = x1 := ⟨_, rfl⟩
  have HW0 : Hid ((w.alloc (.cells #[.slice S0.secret.a S0.secret.n S0.secret.c] 32)).alloc (.cells #[.int .i64 ah1, .int .i64 ap1] 34) = x1) := hx1
  have b1 : Below w.heap.size w x1 := by rw [← hx1]; exact ((Below.refl _ _).alloc (Nat.le_refl _) _).alloc (by simp) _
  have KN0 : Blk x1 (w.heap.size) 32 [.slice S0.secret.a S0.secret.n S0.secret.c] := by
    have q := Blk.new (w) 32 [.slice S0.secret.a S0.secret.n S0.secret.c]
    rw [← hx1]; exact q.alloc _
  have KN1 : Blk x1 (w.heap.size + 1) 34 [.int .i64 ah1, .int .i64 ap1] := by
    have q := Blk.new ((w).alloc (.cells #[.slice S0.secret.a S0.secret.n S0.secret.c] 32)) 34 [.int .i64 ah1, .int .i64 ap1]
    rw [World.size_alloc] at q
    rw [← hx1]; exact q
  have SZ1 : x1.heap.size = w.heap.size + 2 := by rw [← hx1]; simp
  clear hx1
  have L1 : Hid (w.heap.size ≤ x1.heap.size) := b1.size
  have B1 : Hid (Below w.heap.size w x1) := b1
  clear b1
  unfold AddrS.addrV jaV
  go_enter Tryd.func4, Tryd.ntmps4
  go_upto_region 1 with fail
  rw [HW0.out]
  obtain ⟨ga0, hga0⟩ : ∃ g, w.heap.size = g := ⟨_, rfl⟩
  obtain ⟨ga1, hga1⟩ : ∃ g, w.heap.size + 1 = g := ⟨_, rfl⟩
  have Gga : Hid (w.heap.size + 0 = ga0 ∧ w.heap.size + 1 = ga1 ∧ x1.heap.size = w.heap.size + 2) := ⟨by omega, by omega, SZ1⟩
  rw [hga0] at KN0
  rw [hga1] at KN1
  rw [hga1, hga0]
  clear HW0 SZ1 hga0 hga1
  have KA0_1 : Hid (Blk x1 ga0 32 [.slice S0.secret.a S0.secret.n S0.secret.c]) := KN0
  clear KN0
  have KA1_1 : Hid (Blk x1 ga1 34 [.int .i64 ah1, .int .i64 ap1]) := KN1
  clear KN1
  by_cases hbig3 : (s3.n : Int) > 1048576
  · go_wp2
    go_ret
    exact ⟨rfl, B1.out⟩
  have HL3 : Hid (l3.length ≤ 1048576) := by have := HN3.out; show _ ≤ _; omega
  by_cases hbig4 : (s4.n : Int) > 1048576
  · go_wp2
    go_ret
    exact ⟨rfl, B1.out⟩
  have HL4 : Hid (l4.length ≤ 1048576) := by have := HN4.out; show _ ≤ _; omega
  have c0 := KA0_1.out.cell 0 rfl
  go_wp2_with fail
  refine (szJar S0 D0 (1048576 : Int) x1 HM0.out (by omega) (by omega)).mono ?_
  rintro e x2 ⟨rfl, b2⟩
  clear c0
  have L2 : Hid (x1.heap.size ≤ x2.heap.size) := b2.size
  have B2 : Hid (Below w.heap.size w x2) := B1.out.trans (b2.mono B1.out.size)
  have KA0_2 : Hid (Blk x2 ga0 32 [.slice S0.secret.a S0.secret.n S0.secret.c]) := KA0_1.out.later b2
  have KA1_2 : Hid (Blk x2 ga1 34 [.int .i64 ah1, .int .i64 ap1]) := KA1_1.out.later b2
  clear b2 B1 KA0_1 KA1_1
  by_cases hsum0 : (1048576 : Int) - (jaSum S0 : Int) < 0
  · rw [if_pos hsum0]
    go_wp2
    go_ret
    exact ⟨rfl, B2.out⟩
  rw [if_neg hsum0]
  have HL0 : Hid (JaShort D0 1048576) := ja_short_of HR0.out (by omega)
  have HLL0 : Hid (JaShort D0 4194304) := ja_short_le HL0.out (by omega)
  have HRS0 : Hid (R0.length ≤ 1048576) := by rw [← HRD0.out]; exact Nat.le_trans (mint_le _ _ _ _ _ _ _) (by omega)
  have BX : Hid (Below w.heap.size w x2) := B2.out
  have TD : Hid (Below x2.heap.size x2 x2.drew) := (Below.refl _ _).drew
  have HLB3 : Hid (l3.length ≤ 4194304) := by have := HL3.out; show _ ≤ _; omega
  have HLB4 : Hid (l4.length ≤ 4194304) := by have := HL4.out; show _ ≤ _; omega
  have dz0_0 := KA0_2.out.cell 0 rfl
  have dz1_0 := KA1_2.out.cell 0 rfl
  have dz1_1 := KA1_2.out.cell 1 rfl
  go_upto_region 9 with fail
  go_region_held3 (fun w' => w'.cell? ⟨ga0, 0, none⟩ = some (.slice S0.secret.a S0.secret.n S0.secret.c) ∧ w'.cell? ⟨ga1, 0, none⟩ = some (.int .i64 ah1) ∧ w'.cell? ⟨ga1, 1, none⟩ = some (.int .i64 ap1)) (first | exact ⟨dw0_0, dw1_0, dw1_1⟩ | exact ⟨d30_0, d31_0, d31_1⟩ | exact ⟨d20_0, d21_0, d21_1⟩ | exact ⟨d10_0, d11_0, d11_1⟩ | exact ⟨d00_0, d01_0, d01_1⟩ | exact ⟨dz0_0, dz1_0, dz1_1⟩ | go_keep)
   (first
    | (go_at_call 14; refine (CkT.specMint Sw0 D0 ah1 ap1 a2 ⟨some ⟨yw1.heap.size, 0, none⟩, s3.n, s3.n⟩ ⟨some ⟨yw2.heap.size, 0, none⟩, s4.n, s4.n⟩ l3 l4 a5 yw3 Ow0_ppp.out.rd Ow3_p.out.rd Ow4_.out.rd).mono ?_; rw [HRD0.out]; rintro e x3 ⟨Sw0, rfl, o0, b⟩; have Twz : Hid (Below x2.heap.size x2 x3) := (Tw3.out).trans (b.mono (Tw3.out).size); have Lwz : Hid (x2.heap.size ≤ yw3.heap.size) := (Tw3.out).size; have dw0_0 := (KA0_2.out.later Twz.out).cell 0 rfl; have dw1_0 := (KA1_2.out.later Twz.out).cell 0 rfl; have dw1_1 := (KA1_2.out.later Twz.out).cell 1 rfl; clear b)
    | (go_at_call 6; refine (toB s4 l4 yw2 (HR4.out.later (BX.out.trans (Tw2.out.mono BX.out.size))) HLB4.out).mono ?_; rintro e yw3 ⟨rfl, o, b⟩; have Ow4_ : Hid (SOwn yw3 yw2.heap.size yw3.heap.size ⟨some ⟨yw2.heap.size, 0, none⟩, s4.n, s4.n⟩ l4) := o; have Tw3 : Hid (Below x2.heap.size x2 yw3) := (Tw2.out).trans (b.mono (Tw2.out).size); have Ow0_ppp : Hid (JaOwn yw3 x2.drew.heap.size yw0.heap.size Sw0 D0) := Ow0_pp.out.later b; have Ow3_p : Hid (SOwn yw3 yw1.heap.size yw2.heap.size ⟨some ⟨yw1.heap.size, 0, none⟩, s3.n, s3.n⟩ l3) := Ow3_.out.later b; have d30_0 := (KA0_2.out.later Tw3.out).cell 0 rfl; have d31_0 := (KA1_2.out.later Tw3.out).cell 0 rfl; have d31_1 := (KA1_2.out.later Tw3.out).cell 1 rfl; clear o b)
    | (go_at_call 6; refine (toB s3 l3 yw1 (HR3.out.later (BX.out.trans (Tw1.out.mono BX.out.size))) HLB3.out).mono ?_; rintro e yw2 ⟨rfl, o, b⟩; have Ow3_ : Hid (SOwn yw2 yw1.heap.size yw2.heap.size ⟨some ⟨yw1.heap.size, 0, none⟩, s3.n, s3.n⟩ l3) := o; have Tw2 : Hid (Below x2.heap.size x2 yw2) := (Tw1.out).trans (b.mono (Tw1.out).size); have Ow0_pp : Hid (JaOwn yw2 x2.drew.heap.size yw0.heap.size Sw0 D0) := Ow0_p.out.later b; have d20_0 := (KA0_2.out.later Tw2.out).cell 0 rfl; have d21_0 := (KA1_2.out.later Tw2.out).cell 0 rfl; have d21_1 := (KA1_2.out.later Tw2.out).cell 1 rfl; clear o b)
    | (go_at_call 16; refine (AddrL.toAddr ah1 ap1 yw0).mono ?_; rintro e yw1 ⟨rfl, b⟩; have Tw1 : Hid (Below x2.heap.size x2 yw1) := (Tw0.out).trans (b.mono (Tw0.out).size); have Ow0_p : Hid (JaOwn yw1 x2.drew.heap.size yw0.heap.size Sw0 D0) := Ow0_.out.later b; have d10_0 := (KA0_2.out.later Tw1.out).cell 0 rfl; have d11_0 := (KA1_2.out.later Tw1.out).cell 0 rfl; have d11_1 := (KA1_2.out.later Tw1.out).cell 1 rfl; clear b)
    | (go_at_call 15; refine (toJar S0 D0 x2.drew (HR0.out.later (BX.out.trans (TD.out.mono BX.out.size))) HLL0.out).mono ?_; rintro e yw0 ⟨Sw0, rfl, o, b⟩; have Ow0_ : Hid (JaOwn yw0 x2.drew.heap.size yw0.heap.size Sw0 D0) := o; have Tw0 : Hid (Below x2.heap.size x2 yw0) := (TD.out).trans (b.mono (TD.out).size); have d00_0 := (KA0_2.out.later Tw0.out).cell 0 rfl; have d01_0 := (KA1_2.out.later Tw0.out).cell 0 rfl; have d01_1 := (KA1_2.out.later Tw0.out).cell 1 rfl; clear o b))
  clear dz0_0 dz1_0 dz1_1 dw0_0 dw1_0 dw1_1 d00_0 d01_0 d01_1 d10_0 d11_0 d11_1 d20_0 d21_0 d21_1 d30_0 d31_0 d31_1
  have b := Twz.out
  have L3 : Hid (x2.heap.size ≤ x3.heap.size) := b.size
  have B3 : Hid (Below w.heap.size w x3) := B2.out.trans (b.mono B2.out.size)
  have KA0_3 : Hid (Blk x3 ga0 32 [.slice S0.secret.a S0.secret.n S0.secret.c]) := KA0_2.out.later b
  have KA1_3 : Hid (Blk x3 ga1 34 [.int .i64 ah1, .int .i64 ap1]) := KA1_2.out.later b
  clear b B2 KA0_2 KA1_2
  clear BX TD HLB3 HLB4
  have Ow0r_3 : Hid (SOwn x3 yw3.heap.size x3.heap.size Sw0 R0) := o0
  clear o0
  go_upto_region 10 with fail
  have c0 := KA0_3.out.cell 0 rfl
  go_wp2_with fail
  refine (toJar S0 D0 x3 (HR0.out.later B3.out) HLL0.out).mono ?_
  rintro e x4 ⟨Sx0, rfl, o, b4⟩
  clear c0
  have L4 : Hid (x3.heap.size ≤ x4.heap.size) := b4.size
  have B4 : Hid (Below w.heap.size w x4) := B3.out.trans (b4.mono B3.out.size)
  have KA0_4 : Hid (Blk x4 ga0 32 [.slice S0.secret.a S0.secret.n S0.secret.c]) := KA0_3.out.later b4
  have KA1_4 : Hid (Blk x4 ga1 34 [.int .i64 ah1, .int .i64 ap1]) := KA1_3.out.later b4
  have Ow0r_4 : Hid (SOwn x4 yw3.heap.size x3.heap.size Sw0 R0) := Ow0r_3.out.later b4
  clear b4 B3 KA0_3 KA1_3 Ow0r_3
  have Ox0_4 : Hid (JaOwn x4 x3.heap.size x4.heap.size Sx0 D0) := o
  clear o
  obtain ⟨x5, hx5⟩ : ∃ x5, x4.alloc (.cells #[.slice Sx0.secret.a Sx0.secret.n Sx0.secret.c] 24) = x5 := ⟨_, rfl⟩
  have HW5 : Hid (x4.alloc (.cells #[.slice Sx0.secret.a Sx0.secret.n Sx0.secret.c] 24) = x5) := hx5
  have b5 : Below x4.heap.size x4 x5 := by rw [← hx5]; exact (Below.refl _ _).alloc (Nat.le_refl _) _
  have KN : Blk x5 x4.heap.size 24 [.slice Sx0.secret.a Sx0.secret.n Sx0.secret.c] := by rw [← hx5]; exact Blk.new x4 _ _
  have HSZ5 : Hid (x5.heap.size = x4.heap.size + 1) := by rw [← hx5]; show _ = _; simp
  clear hx5
  have L5 : Hid (x4.heap.size ≤ x5.heap.size) := b5.size
  have B5 : Hid (Below w.heap.size w x5) := B4.out.trans (b5.mono B4.out.size)
  have KA0_5 : Hid (Blk x5 ga0 32 [.slice S0.secret.a S0.secret.n S0.secret.c]) := KA0_4.out.later b5
  have KA1_5 : Hid (Blk x5 ga1 34 [.int .i64 ah1, .int .i64 ap1]) := KA1_4.out.later b5
  have Ow0r_5 : Hid (SOwn x5 yw3.heap.size x3.heap.size Sw0 R0) := Ow0r_4.out.later b5
  have Ox0_5 : Hid (JaOwn x5 x3.heap.size x4.heap.size Sx0 D0) := Ox0_4.out.later b5
  clear b5 B4 KA0_4 KA1_4 Ow0r_4 Ox0_4
  unfold jaV
  go_upto_region 11 with fail
  rw [HW5.out]
  obtain ⟨gx0, hgx0⟩ : ∃ gx0, x4.heap.size = gx0 := ⟨_, rfl⟩
  have Ggx0 : Hid (x4.heap.size = gx0 ∧ x5.heap.size = gx0 + 1) := ⟨hgx0, by rw [← hgx0]; exact HSZ5.out⟩
  rw [hgx0] at KN ⊢
  clear HW5 HSZ5 hgx0
  have Kx0_5 : Hid (Blk x5 gx0 24 [.slice Sx0.secret.a Sx0.secret.n Sx0.secret.c]) := KN
  clear KN
  go_wp2_with fail
  refine (toB s3 l3 x5 (HR3.out.later B5.out) (by have := HL3.out; omega)).mono ?_
  rintro e x6 ⟨rfl, o, b6⟩
  obtain ⟨qx3, hq⟩ : ∃ q, x5.heap.size = q := ⟨_, rfl⟩
  rw [hq] at o ⊢
  have L6 : Hid (x5.heap.size ≤ x6.heap.size) := b6.size
  have B6 : Hid (Below w.heap.size w x6) := B5.out.trans (b6.mono B5.out.size)
  have KA0_6 : Hid (Blk x6 ga0 32 [.slice S0.secret.a S0.secret.n S0.secret.c]) := KA0_5.out.later b6
  have KA1_6 : Hid (Blk x6 ga1 34 [.int .i64 ah1, .int .i64 ap1]) := KA1_5.out.later b6
  have Ow0r_6 : Hid (SOwn x6 yw3.heap.size x3.heap.size Sw0 R0) := Ow0r_5.out.later b6
  have Ox0_6 : Hid (JaOwn x6 x3.heap.size x4.heap.size Sx0 D0) := Ox0_5.out.later b6
  have Kx0_6 : Hid (Blk x6 gx0 24 [.slice Sx0.secret.a Sx0.secret.n Sx0.secret.c]) := Kx0_5.out.later b6
  clear b6 B5 KA0_5 KA1_5 Ow0r_5 Ox0_5 Kx0_5
  have Gqx3 : Hid (x5.heap.size = qx3) := hq
  have Ox3_6 : Hid (SOwn x6 qx3 x6.heap.size ⟨some ⟨qx3, 0, none⟩, s3.n, s3.n⟩ l3) := o
  clear o hq
  go_wp2_with fail
  refine (toB s4 l4 x6 (HR4.out.later B6.out) (by have := HL4.out; omega)).mono ?_
  rintro e x7 ⟨rfl, o, b7⟩
  obtain ⟨qx4, hq⟩ : ∃ q, x6.heap.size = q := ⟨_, rfl⟩
  rw [hq] at o ⊢
  have L7 : Hid (x6.heap.size ≤ x7.heap.size) := b7.size
  have B7 : Hid (Below w.heap.size w x7) := B6.out.trans (b7.mono B6.out.size)
  have KA0_7 : Hid (Blk x7 ga0 32 [.slice S0.secret.a S0.secret.n S0.secret.c]) := KA0_6.out.later b7
  have KA1_7 : Hid (Blk x7 ga1 34 [.int .i64 ah1, .int .i64 ap1]) := KA1_6.out.later b7
  have Ow0r_7 : Hid (SOwn x7 yw3.heap.size x3.heap.size Sw0 R0) := Ow0r_6.out.later b7
  have Ox0_7 : Hid (JaOwn x7 x3.heap.size x4.heap.size Sx0 D0) := Ox0_6.out.later b7
  have Kx0_7 : Hid (Blk x7 gx0 24 [.slice Sx0.secret.a Sx0.secret.n Sx0.secret.c]) := Kx0_6.out.later b7
  have Ox3_7 : Hid (SOwn x7 qx3 x6.heap.size ⟨some ⟨qx3, 0, none⟩, s3.n, s3.n⟩ l3) := Ox3_6.out.later b7
  clear b7 B6 KA0_6 KA1_6 Ow0r_6 Ox0_6 Kx0_6 Ox3_6
  have Gqx4 : Hid (x6.heap.size = qx4) := hq
  have Ox4_7 : Hid (SOwn x7 qx4 x7.heap.size ⟨some ⟨qx4, 0, none⟩, s4.n, s4.n⟩ l4) := o
  clear o hq
  have BX : Hid (Below w.heap.size w x7) := B7.out
  have TD : Hid (Below x7.heap.size x7 x7.drew) := (Below.refl _ _).drew
  have dz1_0 := KA1_7.out.cell 0 rfl
  have dz1_1 := KA1_7.out.cell 1 rfl
  have dzx0_0 := Kx0_7.out.cell 0 rfl
  go_upto_region 13 with fail
  go_region_held3 (fun w' => w'.cell? ⟨ga1, 0, none⟩ = some (.int .i64 ah1) ∧ w'.cell? ⟨ga1, 1, none⟩ = some (.int .i64 ap1) ∧ w'.cell? ⟨gx0, 0, none⟩ = some (.slice Sx0.secret.a Sx0.secret.n Sx0.secret.c)) (first | exact ⟨dw1_0, dw1_1, dwx0_0⟩ | exact ⟨d01_0, d01_1, d0x0_0⟩ | exact ⟨dz1_0, dz1_1, dzx0_0⟩ | go_keep)
   (first
    | (go_at_call 17; refine (CkJ.implMint Sx0 D0 ah1 ap1 a2 ⟨some ⟨qx3, 0, none⟩, s3.n, s3.n⟩ ⟨some ⟨qx4, 0, none⟩, s4.n, s4.n⟩ l3 l4 a5 yg0 (HT.out.later (BX.out.trans (Tg0.out.mono BX.out.size))) (Ox0_7.out.later (Tg0.out)).rd (Ox3_7.out.later (Tg0.out)).rd (Ox4_7.out.later (Tg0.out)).rd).mono ?_; rw [HRD0.out]; rintro e x8 ⟨Sg0, rfl, o0, b⟩; have Tgz : Hid (Below x7.heap.size x7 x8) := (Tg0.out).trans (b.mono (Tg0.out).size); have Lgz : Hid (x7.heap.size ≤ yg0.heap.size) := (Tg0.out).size; have dw1_0 := (KA1_7.out.later Tgz.out).cell 0 rfl; have dw1_1 := (KA1_7.out.later Tgz.out).cell 1 rfl; have dwx0_0 := (Kx0_7.out.later Tgz.out).cell 0 rfl; clear b)
    | (go_at_call 16; refine (AddrL.toAddr ah1 ap1 x7.drew).mono ?_; rintro e yg0 ⟨rfl, b⟩; have Tg0 : Hid (Below x7.heap.size x7 yg0) := (TD.out).trans (b.mono (TD.out).size); have d01_0 := (KA1_7.out.later Tg0.out).cell 0 rfl; have d01_1 := (KA1_7.out.later Tg0.out).cell 1 rfl; have d0x0_0 := (Kx0_7.out.later Tg0.out).cell 0 rfl; clear b))
  clear dz1_0 dz1_1 dzx0_0 dw1_0 dw1_1 dwx0_0 d01_0 d01_1 d0x0_0
  have b := Tgz.out
  have L8 : Hid (x7.heap.size ≤ x8.heap.size) := b.size
  have B8 : Hid (Below w.heap.size w x8) := B7.out.trans (b.mono B7.out.size)
  have KA0_8 : Hid (Blk x8 ga0 32 [.slice S0.secret.a S0.secret.n S0.secret.c]) := KA0_7.out.later b
  have KA1_8 : Hid (Blk x8 ga1 34 [.int .i64 ah1, .int .i64 ap1]) := KA1_7.out.later b
  have Ow0r_8 : Hid (SOwn x8 yw3.heap.size x3.heap.size Sw0 R0) := Ow0r_7.out.later b
  have Ox0_8 : Hid (JaOwn x8 x3.heap.size x4.heap.size Sx0 D0) := Ox0_7.out.later b
  have Kx0_8 : Hid (Blk x8 gx0 24 [.slice Sx0.secret.a Sx0.secret.n Sx0.secret.c]) := Kx0_7.out.later b
  have Ox3_8 : Hid (SOwn x8 qx3 x6.heap.size ⟨some ⟨qx3, 0, none⟩, s3.n, s3.n⟩ l3) := Ox3_7.out.later b
  have Ox4_8 : Hid (SOwn x8 qx4 x7.heap.size ⟨some ⟨qx4, 0, none⟩, s4.n, s4.n⟩ l4) := Ox4_7.out.later b
  clear b B7 KA0_7 KA1_7 Ow0r_7 Ox0_7 Kx0_7 Ox3_7 Ox4_7
  clear BX TD
  have Og0r_8 : Hid (SOwn x8 yg0.heap.size x8.heap.size Sg0 R0) := o0
  clear o0
  go_upto_region 14 with fail
  go_wp2_with fail
  refine (eqB Sg0 Sw0 R0 R0 x8 Og0r_8.out.rd Ow0r_8.out.rd (by have := HRS0.out; omega) (by have := HRS0.out; omega)).mono ?_
  rw [decide_eq_true (show R0 = R0 from rfl)]
  rintro e x9 ⟨rfl, b9⟩
  have L9 : Hid (x8.heap.size ≤ x9.heap.size) := b9.size
  have B9 : Hid (Below w.heap.size w x9) := B8.out.trans (b9.mono B8.out.size)
  have KA0_9 : Hid (Blk x9 ga0 32 [.slice S0.secret.a S0.secret.n S0.secret.c]) := KA0_8.out.later b9
  have KA1_9 : Hid (Blk x9 ga1 34 [.int .i64 ah1, .int .i64 ap1]) := KA1_8.out.later b9
  have Ow0r_9 : Hid (SOwn x9 yw3.heap.size x3.heap.size Sw0 R0) := Ow0r_8.out.later b9
  have Ox0_9 : Hid (JaOwn x9 x3.heap.size x4.heap.size Sx0 D0) := Ox0_8.out.later b9
  have Kx0_9 : Hid (Blk x9 gx0 24 [.slice Sx0.secret.a Sx0.secret.n Sx0.secret.c]) := Kx0_8.out.later b9
  have Ox3_9 : Hid (SOwn x9 qx3 x6.heap.size ⟨some ⟨qx3, 0, none⟩, s3.n, s3.n⟩ l3) := Ox3_8.out.later b9
  have Ox4_9 : Hid (SOwn x9 qx4 x7.heap.size ⟨some ⟨qx4, 0, none⟩, s4.n, s4.n⟩ l4) := Ox4_8.out.later b9
  have Og0r_9 : Hid (SOwn x9 yg0.heap.size x8.heap.size Sg0 R0) := Og0r_8.out.later b9
  clear b9 B8 KA0_8 KA1_8 Ow0r_8 Ox0_8 Kx0_8 Ox3_8 Ox4_8 Og0r_8
  go_upto_region 16 with fail
  go_cut [67] from 63 to 66 (fun sv wx => sv = .bool false ∧ Below x9.heap.size x9 wx)
  case first =>
    rename_i J K' hRJ hMet
    generalize hA : Act.mk _ _ = A
    have a6' : A.eval (.tmp 6) = .pointer (some ⟨ga0, 0, none⟩) := by rw [← hA]; rfl
    have a15' : A.eval (.tmp 15) = .pointer (some ⟨gx0, 0, none⟩) := by rw [← hA]; rfl
    have asz : A.tmps.size = 129 := by rw [← hA]; rfl
    have hKA : ∀ wx, Below x9.heap.size x9 wx → Blk wx ga0 32 [.slice S0.secret.a S0.secret.n S0.secret.c] := fun wx hb => KA0_9.out.later hb
    have hKB : ∀ wx, Below x9.heap.size x9 wx → Blk wx gx0 24 [.slice Sx0.secret.a Sx0.secret.n Sx0.secret.c] := fun wx hb => Kx0_9.out.later hb
    have hRS : ∀ wx, Below x9.heap.size x9 wx → JaRd wx S0 D0 := fun wx hb => HR0.out.later (B9.out.trans (hb.mono B9.out.size))
    have hRT : ∀ wx, Below x9.heap.size x9 wx → JaRd wx Sx0 D0 := fun wx hb => (Ox0_9.out.later hb).rd
    refine region_each (by kernel_rfl) [63, 64, 65, 66] 4 (fun i => [63, 64, 65, 66].getD i 0) (fun _ => 0)
      (fun i gB v wx => match i with
        | 0 => v = .agg #[.slice Sx0.secret.a Sx0.secret.n Sx0.secret.c]
        | 1 => v = .agg #[.slice S0.secret.a S0.secret.n S0.secret.c]
        | 2 => ∃ S3, v = jaV D0 S3 ∧ JaRd wx S3 D0
        | 3 => v = .bool true
        | _ => False) (fun wx => Below x9.heap.size x9 wx) (by kernel_rfl) (Below.refl _ _).drew ?_ ?_ ?_
    · intro i gB v wx wy hi hF hb _
      match i, hi with
      | 0, _ => exact hF
      | 1, _ => exact hF
      | 2, _ => obtain ⟨S3, h0, h1⟩ := hF; exact ⟨S3, h0, h1.later hb⟩
      | 3, _ => exact hF
    · intro i hi t ρ wx hB hp hd
      match i, hi with
      | 0, _ =>
        have e15 : (fr [63, 64, 65, 66] A t).eval (.tmp 15) = .pointer (some ⟨gx0, 0, none⟩) := (fr_eval_old _ _ _ 15 rfl).trans a15'
        have hc0 := (hKB wx hB).cell 0 rfl
        refine op_run (v := .agg #[.slice Sx0.secret.a Sx0.secret.n Sx0.secret.c]) (w' := wx) rfl rfl ?_ ?_
        · clear hp hd; have ec : ∀ v, (fr [63, 64, 65, 66] A t).eval (.const v) = v := fun _ => rfl; generalize (fr [63, 64, 65, 66] A t).eval = ev at ec e15 ⊢; go_simp
        · exact ⟨_, 0, rfl, hB, Below.refl _ _, rfl, .inl rfl⟩
      | 1, _ =>
        have e6 : (fr [63, 64, 65, 66] A t).eval (.tmp 6) = .pointer (some ⟨ga0, 0, none⟩) := (fr_eval_old _ _ _ 6 rfl).trans a6'
        have hc0 := (hKA wx hB).cell 0 rfl
        refine op_run (v := .agg #[.slice S0.secret.a S0.secret.n S0.secret.c]) (w' := wx) rfl rfl ?_ ?_
        · clear hp hd; have ec : ∀ v, (fr [63, 64, 65, 66] A t).eval (.const v) = v := fun _ => rfl; generalize (fr [63, 64, 65, 66] A t).eval = ev at ec e6 ⊢; go_simp
        · exact ⟨_, 0, rfl, hB, Below.refl _ _, rfl, .inl rfl⟩
      | 2, _ =>
        have e64 : (fr [63, 64, 65, 66] A t).eval (.tmp 64) = .agg #[.slice S0.secret.a S0.secret.n S0.secret.c] := (fr_eval _ _ _ 64 rfl (by rw [asz]; decide)).trans (hp 1 (pre_mem (by kernel_rfl)))
        refine op_call (f := 15) (args := #[.agg #[.slice S0.secret.a S0.secret.n S0.secret.c]]) rfl rfl ?_ (toJar S0 D0 wx (hRS wx hB) HLL0.out) ?_
        · have ef : (fr [63, 64, 65, 66] A t).eval (.func 15) = .func (.func 15) #[] #[] := rfl; clear hp hd; have ec : ∀ v, (fr [63, 64, 65, 66] A t).eval (.const v) = v := fun _ => rfl; generalize (fr [63, 64, 65, 66] A t).eval = ev at ec e64 ef ⊢; go_simp
        · rintro e wy ⟨S3, rfl, o3, b1⟩
          exact ⟨_, rfl, _, wx.heap.size, rfl, hB.trans (b1.mono hB.size), b1, ⟨S3, rfl, o3.rd⟩, .inl rfl⟩
      | 3, _ =>
        have e63 : (fr [63, 64, 65, 66] A t).eval (.tmp 63) = .agg #[.slice Sx0.secret.a Sx0.secret.n Sx0.secret.c] := (fr_eval _ _ _ 63 rfl (by rw [asz]; decide)).trans (hp 0 (pre_mem (by kernel_rfl)))
        obtain ⟨S32, hv2, q2_0⟩ := hp 2 (pre_mem (by kernel_rfl))
        have e65 : (fr [63, 64, 65, 66] A t).eval (.tmp 65) = jaV D0 S32 := (fr_eval _ _ _ 65 rfl (by rw [asz]; decide)).trans hv2
        refine op_call (f := 8) (args := #[.agg #[.slice Sx0.secret.a Sx0.secret.n Sx0.secret.c], jaV D0 S32]) rfl rfl ?_ (eqJar Sx0 S32 D0 wx (hRT wx hB) q2_0 HLL0.out) ?_
        · have ef : (fr [63, 64, 65, 66] A t).eval (.func 8) = .func (.func 8) #[] #[] := rfl; clear hp hd q2_0; have ec : ∀ v, (fr [63, 64, 65, 66] A t).eval (.const v) = v := fun _ => rfl; generalize (fr [63, 64, 65, 66] A t).eval = ev at ec e63 e65 ef ⊢; go_simp
        · rintro e wy ⟨rfl, b1⟩
          exact ⟨_, rfl, _, wx.heap.size, rfl, hB.trans (b1.mono hB.size), b1, rfl, .inl rfl⟩
    · intro t ρ wx hB hF hne
      have hv3 := hF 3 (by decide)
      have e66 : (fr [63, 64, 65, 66] A t).eval (.tmp 66) = .bool true := (fr_eval _ _ _ 66 rfl (by rw [asz]; decide)).trans hv3
      clear hne
      refine op_wp rfl rfl ?_
      generalize hE : (fr [63, 64, 65, 66] A t).eval = ev at e66
      unfold Oper.wp
      rw [hE]
      clear hv3
      go_simp
      refine hMet _ _ (Met.intro (hRJ _ _ ⟨t 63, t 64, t 65, t 66, _, ⟨rfl, hB⟩, ?_⟩))
      rw [← hA]; rfl
  case rest =>
  obtain ⟨x10, hq10⟩ : ∃ x10, x10 = wc := ⟨_, rfl⟩
  subst hq10
  obtain ⟨rfl, b10⟩ := hcut
  have L10 : Hid (x9.heap.size ≤ x10.heap.size) := b10.size
  have B10 : Hid (Below w.heap.size w x10) := B9.out.trans (b10.mono B9.out.size)
  have KA0_10 : Hid (Blk x10 ga0 32 [.slice S0.secret.a S0.secret.n S0.secret.c]) := KA0_9.out.later b10
  have KA1_10 : Hid (Blk x10 ga1 34 [.int .i64 ah1, .int .i64 ap1]) := KA1_9.out.later b10
  have Ow0r_10 : Hid (SOwn x10 yw3.heap.size x3.heap.size Sw0 R0) := Ow0r_9.out.later b10
  have Ox0_10 : Hid (JaOwn x10 x3.heap.size x4.heap.size Sx0 D0) := Ox0_9.out.later b10
  have Kx0_10 : Hid (Blk x10 gx0 24 [.slice Sx0.secret.a Sx0.secret.n Sx0.secret.c]) := Kx0_9.out.later b10
  have Ox3_10 : Hid (SOwn x10 qx3 x6.heap.size ⟨some ⟨qx3, 0, none⟩, s3.n, s3.n⟩ l3) := Ox3_9.out.later b10
  have Ox4_10 : Hid (SOwn x10 qx4 x7.heap.size ⟨some ⟨qx4, 0, none⟩, s4.n, s4.n⟩ l4) := Ox4_9.out.later b10
  have Og0r_10 : Hid (SOwn x10 yg0.heap.size x8.heap.size Sg0 R0) := Og0r_9.out.later b10
  clear b10 B9 KA0_9 KA1_9 Ow0r_9 Ox0_9 Kx0_9 Ox3_9 Ox4_9 Og0r_9
  go_wp2_with fail
  refine (toB s3 l3 x10 (HR3.out.later B10.out) (by have := HL3.out; omega)).mono ?_
  rintro e x11 ⟨rfl, o, b11⟩
  obtain ⟨qy3, hq⟩ : ∃ q, x10.heap.size = q := ⟨_, rfl⟩
  rw [hq] at o ⊢
  have L11 : Hid (x10.heap.size ≤ x11.heap.size) := b11.size
  have B11 : Hid (Below w.heap.size w x11) := B10.out.trans (b11.mono B10.out.size)
  have KA0_11 : Hid (Blk x11 ga0 32 [.slice S0.secret.a S0.secret.n S0.secret.c]) := KA0_10.out.later b11
  have KA1_11 : Hid (Blk x11 ga1 34 [.int .i64 ah1, .int .i64 ap1]) := KA1_10.out.later b11
  have Ow0r_11 : Hid (SOwn x11 yw3.heap.size x3.heap.size Sw0 R0) := Ow0r_10.out.later b11
  have Ox0_11 : Hid (JaOwn x11 x3.heap.size x4.heap.size Sx0 D0) := Ox0_10.out.later b11
  have Kx0_11 : Hid (Blk x11 gx0 24 [.slice Sx0.secret.a Sx0.secret.n Sx0.secret.c]) := Kx0_10.out.later b11
  have Ox3_11 : Hid (SOwn x11 qx3 x6.heap.size ⟨some ⟨qx3, 0, none⟩, s3.n, s3.n⟩ l3) := Ox3_10.out.later b11
  have Ox4_11 : Hid (SOwn x11 qx4 x7.heap.size ⟨some ⟨qx4, 0, none⟩, s4.n, s4.n⟩ l4) := Ox4_10.out.later b11
  have Og0r_11 : Hid (SOwn x11 yg0.heap.size x8.heap.size Sg0 R0) := Og0r_10.out.later b11
  clear b11 B10 KA0_10 KA1_10 Ow0r_10 Ox0_10 Kx0_10 Ox3_10 Ox4_10 Og0r_10
  have Gqy3 : Hid (x10.heap.size = qy3) := hq
  have Oy3_11 : Hid (SOwn x11 qy3 x11.heap.size ⟨some ⟨qy3, 0, none⟩, s3.n, s3.n⟩ l3) := o
  clear o hq
  go_wp2_with fail
  refine (eqB ⟨some ⟨qx3, 0, none⟩, s3.n, s3.n⟩ ⟨some ⟨qy3, 0, none⟩, s3.n, s3.n⟩ l3 l3 x11 Ox3_11.out.rd Oy3_11.out.rd (by have := HL3.out; omega) (by have := HL3.out; omega)).mono ?_
  rw [decide_eq_true (show l3 = l3 from rfl)]
  rintro e x12 ⟨rfl, b12⟩
  have L12 : Hid (x11.heap.size ≤ x12.heap.size) := b12.size
  have B12 : Hid (Below w.heap.size w x12) := B11.out.trans (b12.mono B11.out.size)
  have KA0_12 : Hid (Blk x12 ga0 32 [.slice S0.secret.a S0.secret.n S0.secret.c]) := KA0_11.out.later b12
  have KA1_12 : Hid (Blk x12 ga1 34 [.int .i64 ah1, .int .i64 ap1]) := KA1_11.out.later b12
  have Ow0r_12 : Hid (SOwn x12 yw3.heap.size x3.heap.size Sw0 R0) := Ow0r_11.out.later b12
  have Ox0_12 : Hid (JaOwn x12 x3.heap.size x4.heap.size Sx0 D0) := Ox0_11.out.later b12
  have Kx0_12 : Hid (Blk x12 gx0 24 [.slice Sx0.secret.a Sx0.secret.n Sx0.secret.c]) := Kx0_11.out.later b12
  have Ox3_12 : Hid (SOwn x12 qx3 x6.heap.size ⟨some ⟨qx3, 0, none⟩, s3.n, s3.n⟩ l3) := Ox3_11.out.later b12
  have Ox4_12 : Hid (SOwn x12 qx4 x7.heap.size ⟨some ⟨qx4, 0, none⟩, s4.n, s4.n⟩ l4) := Ox4_11.out.later b12
  have Og0r_12 : Hid (SOwn x12 yg0.heap.size x8.heap.size Sg0 R0) := Og0r_11.out.later b12
  have Oy3_12 : Hid (SOwn x12 qy3 x11.heap.size ⟨some ⟨qy3, 0, none⟩, s3.n, s3.n⟩ l3) := Oy3_11.out.later b12
  clear b12 B11 KA0_11 KA1_11 Ow0r_11 Ox0_11 Kx0_11 Ox3_11 Ox4_11 Og0r_11 Oy3_11
  clear Oy3_12
  go_wp2_with fail
  refine (toB s4 l4 x12 (HR4.out.later B12.out) (by have := HL4.out; omega)).mono ?_
  rintro e x13 ⟨rfl, o, b13⟩
  obtain ⟨qy4, hq⟩ : ∃ q, x12.heap.size = q := ⟨_, rfl⟩
  rw [hq] at o ⊢
  have L13 : Hid (x12.heap.size ≤ x13.heap.size) := b13.size
  have B13 : Hid (Below w.heap.size w x13) := B12.out.trans (b13.mono B12.out.size)
  have KA0_13 : Hid (Blk x13 ga0 32 [.slice S0.secret.a S0.secret.n S0.secret.c]) := KA0_12.out.later b13
  have KA1_13 : Hid (Blk x13 ga1 34 [.int .i64 ah1, .int .i64 ap1]) := KA1_12.out.later b13
  have Ow0r_13 : Hid (SOwn x13 yw3.heap.size x3.heap.size Sw0 R0) := Ow0r_12.out.later b13
  have Ox0_13 : Hid (JaOwn x13 x3.heap.size x4.heap.size Sx0 D0) := Ox0_12.out.later b13
  have Kx0_13 : Hid (Blk x13 gx0 24 [.slice Sx0.secret.a Sx0.secret.n Sx0.secret.c]) := Kx0_12.out.later b13
  have Ox3_13 : Hid (SOwn x13 qx3 x6.heap.size ⟨some ⟨qx3, 0, none⟩, s3.n, s3.n⟩ l3) := Ox3_12.out.later b13
  have Ox4_13 : Hid (SOwn x13 qx4 x7.heap.size ⟨some ⟨qx4, 0, none⟩, s4.n, s4.n⟩ l4) := Ox4_12.out.later b13
  have Og0r_13 : Hid (SOwn x13 yg0.heap.size x8.heap.size Sg0 R0) := Og0r_12.out.later b13
  clear b13 B12 KA0_12 KA1_12 Ow0r_12 Ox0_12 Kx0_12 Ox3_12 Ox4_12 Og0r_12
  have Gqy4 : Hid (x12.heap.size = qy4) := hq
  have Oy4_13 : Hid (SOwn x13 qy4 x13.heap.size ⟨some ⟨qy4, 0, none⟩, s4.n, s4.n⟩ l4) := o
  clear o hq
  go_wp2_with fail
  refine (eqB ⟨some ⟨qx4, 0, none⟩, s4.n, s4.n⟩ ⟨some ⟨qy4, 0, none⟩, s4.n, s4.n⟩ l4 l4 x13 Ox4_13.out.rd Oy4_13.out.rd (by have := HL4.out; omega) (by have := HL4.out; omega)).mono ?_
  rw [decide_eq_true (show l4 = l4 from rfl)]
  rintro e x14 ⟨rfl, b14⟩
  have L14 : Hid (x13.heap.size ≤ x14.heap.size) := b14.size
  have B14 : Hid (Below w.heap.size w x14) := B13.out.trans (b14.mono B13.out.size)
  have KA0_14 : Hid (Blk x14 ga0 32 [.slice S0.secret.a S0.secret.n S0.secret.c]) := KA0_13.out.later b14
  have KA1_14 : Hid (Blk x14 ga1 34 [.int .i64 ah1, .int .i64 ap1]) := KA1_13.out.later b14
  have Ow0r_14 : Hid (SOwn x14 yw3.heap.size x3.heap.size Sw0 R0) := Ow0r_13.out.later b14
  have Ox0_14 : Hid (JaOwn x14 x3.heap.size x4.heap.size Sx0 D0) := Ox0_13.out.later b14
  have Kx0_14 : Hid (Blk x14 gx0 24 [.slice Sx0.secret.a Sx0.secret.n Sx0.secret.c]) := Kx0_13.out.later b14
  have Ox3_14 : Hid (SOwn x14 qx3 x6.heap.size ⟨some ⟨qx3, 0, none⟩, s3.n, s3.n⟩ l3) := Ox3_13.out.later b14
  have Ox4_14 : Hid (SOwn x14 qx4 x7.heap.size ⟨some ⟨qx4, 0, none⟩, s4.n, s4.n⟩ l4) := Ox4_13.out.later b14
  have Og0r_14 : Hid (SOwn x14 yg0.heap.size x8.heap.size Sg0 R0) := Og0r_13.out.later b14
  have Oy4_14 : Hid (SOwn x14 qy4 x13.heap.size ⟨some ⟨qy4, 0, none⟩, s4.n, s4.n⟩ l4) := Oy4_13.out.later b14
  clear b14 B13 KA0_13 KA1_13 Ow0r_13 Ox0_13 Kx0_13 Ox3_13 Ox4_13 Og0r_13 Oy4_13
  clear Oy4_14
  have hks0 : (jaSum Sx0 : Int) ≤ 1048576 := by have := ja_sum_eq HR0.out Ox0_14.out.rd; omega
  have ca0 := Kx0_14.out.cell 0 rfl
  go_wp2_with fail
  refine (markJar Sx0 D0 (1 : Int) x14 x3.heap.size x4.heap.size Ox0_14.out (by have := L1.out; have := Gga.out; have := L2.out; have := L3.out; have := Lwz.out; have := L4.out; have := L5.out; have := Ggx0.out; have := L6.out; have := Gqx3.out; have := L7.out; have := Gqx4.out; have := L8.out; have := Lgz.out; have := L9.out; have := L10.out; have := L11.out; have := Gqy3.out; have := L12.out; have := L13.out; have := Gqy4.out; have := L14.out; omega) (by omega) (by omega)).mono ?_
  rintro e x15 ⟨rfl, _, k15⟩
  clear ca0
  have L15 : Hid (x14.heap.size ≤ x15.heap.size) := k15.size
  have B15 : Hid (Below w.heap.size w x15) := B14.out.trans (k15.below (by have := L1.out; have := Gga.out; have := L2.out; have := L3.out; have := Lwz.out; have := L4.out; have := L5.out; have := Ggx0.out; have := L6.out; have := Gqx3.out; have := L7.out; have := Gqx4.out; have := L8.out; have := Lgz.out; have := L9.out; have := L10.out; have := L11.out; have := Gqy3.out; have := L12.out; have := L13.out; have := Gqy4.out; have := L14.out; have := L15.out; omega) B14.out.size)
  have KA0_15 : Hid (Blk x15 ga0 32 [.slice S0.secret.a S0.secret.n S0.secret.c]) := KA0_14.out.keep (k15.block _ KA0_14.out.lt (by have := L1.out; have := Gga.out; have := L2.out; have := L3.out; have := Lwz.out; have := L4.out; have := L5.out; have := Ggx0.out; have := L6.out; have := Gqx3.out; have := L7.out; have := Gqx4.out; have := L8.out; have := Lgz.out; have := L9.out; have := L10.out; have := L11.out; have := Gqy3.out; have := L12.out; have := L13.out; have := Gqy4.out; have := L14.out; have := L15.out; omega))
  have KA1_15 : Hid (Blk x15 ga1 34 [.int .i64 ah1, .int .i64 ap1]) := KA1_14.out.keep (k15.block _ KA1_14.out.lt (by have := L1.out; have := Gga.out; have := L2.out; have := L3.out; have := Lwz.out; have := L4.out; have := L5.out; have := Ggx0.out; have := L6.out; have := Gqx3.out; have := L7.out; have := Gqx4.out; have := L8.out; have := Lgz.out; have := L9.out; have := L10.out; have := L11.out; have := Gqy3.out; have := L12.out; have := L13.out; have := Gqy4.out; have := L14.out; have := L15.out; omega))
  have Ow0r_15 : Hid (SOwn x15 yw3.heap.size x3.heap.size Sw0 R0) := Ow0r_14.out.carry k15 (by have := L1.out; have := Gga.out; have := L2.out; have := L3.out; have := Lwz.out; have := L4.out; have := L5.out; have := Ggx0.out; have := L6.out; have := Gqx3.out; have := L7.out; have := Gqx4.out; have := L8.out; have := Lgz.out; have := L9.out; have := L10.out; have := L11.out; have := Gqy3.out; have := L12.out; have := L13.out; have := Gqy4.out; have := L14.out; have := L15.out; omega)
  have Ox3_15 : Hid (SOwn x15 qx3 x6.heap.size ⟨some ⟨qx3, 0, none⟩, s3.n, s3.n⟩ l3) := Ox3_14.out.carry k15 (by have := L1.out; have := Gga.out; have := L2.out; have := L3.out; have := Lwz.out; have := L4.out; have := L5.out; have := Ggx0.out; have := L6.out; have := Gqx3.out; have := L7.out; have := Gqx4.out; have := L8.out; have := Lgz.out; have := L9.out; have := L10.out; have := L11.out; have := Gqy3.out; have := L12.out; have := L13.out; have := Gqy4.out; have := L14.out; have := L15.out; omega)
  have Ox4_15 : Hid (SOwn x15 qx4 x7.heap.size ⟨some ⟨qx4, 0, none⟩, s4.n, s4.n⟩ l4) := Ox4_14.out.carry k15 (by have := L1.out; have := Gga.out; have := L2.out; have := L3.out; have := Lwz.out; have := L4.out; have := L5.out; have := Ggx0.out; have := L6.out; have := Gqx3.out; have := L7.out; have := Gqx4.out; have := L8.out; have := Lgz.out; have := L9.out; have := L10.out; have := L11.out; have := Gqy3.out; have := L12.out; have := L13.out; have := Gqy4.out; have := L14.out; have := L15.out; omega)
  have Og0r_15 : Hid (SOwn x15 yg0.heap.size x8.heap.size Sg0 R0) := Og0r_14.out.carry k15 (by have := L1.out; have := Gga.out; have := L2.out; have := L3.out; have := Lwz.out; have := L4.out; have := L5.out; have := Ggx0.out; have := L6.out; have := Gqx3.out; have := L7.out; have := Gqx4.out; have := L8.out; have := Lgz.out; have := L9.out; have := L10.out; have := L11.out; have := Gqy3.out; have := L12.out; have := L13.out; have := Gqy4.out; have := L14.out; have := L15.out; omega)
  clear k15 B14 KA0_14 KA1_14 Ow0r_14 Ox0_14 Kx0_14 Ox3_14 Ox4_14 Og0r_14
  go_wp2_with fail
  refine (markB ⟨some ⟨qx3, 0, none⟩, s3.n, s3.n⟩ l3 ((1 : Int) + (jaSum Sx0 : Int)) x15 qx3 x6.heap.size Ox3_15.out (by have := HL3.out; omega) (by omega) (by omega)).mono ?_
  rintro e x16 ⟨rfl, _, k16, _⟩
  have L16 : Hid (x15.heap.size ≤ x16.heap.size) := k16.size
  have B16 : Hid (Below w.heap.size w x16) := B15.out.trans (k16.below (by have := L1.out; have := Gga.out; have := L2.out; have := L3.out; have := Lwz.out; have := L4.out; have := L5.out; have := Ggx0.out; have := L6.out; have := Gqx3.out; have := L7.out; have := Gqx4.out; have := L8.out; have := Lgz.out; have := L9.out; have := L10.out; have := L11.out; have := Gqy3.out; have := L12.out; have := L13.out; have := Gqy4.out; have := L14.out; have := L15.out; have := L16.out; omega) B15.out.size)
  have KA0_16 : Hid (Blk x16 ga0 32 [.slice S0.secret.a S0.secret.n S0.secret.c]) := KA0_15.out.keep (k16.block _ KA0_15.out.lt (by have := L1.out; have := Gga.out; have := L2.out; have := L3.out; have := Lwz.out; have := L4.out; have := L5.out; have := Ggx0.out; have := L6.out; have := Gqx3.out; have := L7.out; have := Gqx4.out; have := L8.out; have := Lgz.out; have := L9.out; have := L10.out; have := L11.out; have := Gqy3.out; have := L12.out; have := L13.out; have := Gqy4.out; have := L14.out; have := L15.out; have := L16.out; omega))
  have KA1_16 : Hid (Blk x16 ga1 34 [.int .i64 ah1, .int .i64 ap1]) := KA1_15.out.keep (k16.block _ KA1_15.out.lt (by have := L1.out; have := Gga.out; have := L2.out; have := L3.out; have := Lwz.out; have := L4.out; have := L5.out; have := Ggx0.out; have := L6.out; have := Gqx3.out; have := L7.out; have := Gqx4.out; have := L8.out; have := Lgz.out; have := L9.out; have := L10.out; have := L11.out; have := Gqy3.out; have := L12.out; have := L13.out; have := Gqy4.out; have := L14.out; have := L15.out; have := L16.out; omega))
  have Ow0r_16 : Hid (SOwn x16 yw3.heap.size x3.heap.size Sw0 R0) := Ow0r_15.out.carry k16 (by have := L1.out; have := Gga.out; have := L2.out; have := L3.out; have := Lwz.out; have := L4.out; have := L5.out; have := Ggx0.out; have := L6.out; have := Gqx3.out; have := L7.out; have := Gqx4.out; have := L8.out; have := Lgz.out; have := L9.out; have := L10.out; have := L11.out; have := Gqy3.out; have := L12.out; have := L13.out; have := Gqy4.out; have := L14.out; have := L15.out; have := L16.out; omega)
  have Ox4_16 : Hid (SOwn x16 qx4 x7.heap.size ⟨some ⟨qx4, 0, none⟩, s4.n, s4.n⟩ l4) := Ox4_15.out.carry k16 (by have := L1.out; have := Gga.out; have := L2.out; have := L3.out; have := Lwz.out; have := L4.out; have := L5.out; have := Ggx0.out; have := L6.out; have := Gqx3.out; have := L7.out; have := Gqx4.out; have := L8.out; have := Lgz.out; have := L9.out; have := L10.out; have := L11.out; have := Gqy3.out; have := L12.out; have := L13.out; have := Gqy4.out; have := L14.out; have := L15.out; have := L16.out; omega)
  have Og0r_16 : Hid (SOwn x16 yg0.heap.size x8.heap.size Sg0 R0) := Og0r_15.out.carry k16 (by have := L1.out; have := Gga.out; have := L2.out; have := L3.out; have := Lwz.out; have := L4.out; have := L5.out; have := Ggx0.out; have := L6.out; have := Gqx3.out; have := L7.out; have := Gqx4.out; have := L8.out; have := Lgz.out; have := L9.out; have := L10.out; have := L11.out; have := Gqy3.out; have := L12.out; have := L13.out; have := Gqy4.out; have := L14.out; have := L15.out; have := L16.out; omega)
  clear k16 B15 KA0_15 KA1_15 Ow0r_15 Ox3_15 Ox4_15 Og0r_15
  go_wp2_with fail
  refine (markB ⟨some ⟨qx4, 0, none⟩, s4.n, s4.n⟩ l4 (((1 : Int) + (jaSum Sx0 : Int)) + (s3.n : Int)) x16 qx4 x7.heap.size Ox4_16.out (by have := HL4.out; omega) (by omega) (by omega)).mono ?_
  rintro e x17 ⟨rfl, _, k17, _⟩
  have L17 : Hid (x16.heap.size ≤ x17.heap.size) := k17.size
  have B17 : Hid (Below w.heap.size w x17) := B16.out.trans (k17.below (by have := L1.out; have := Gga.out; have := L2.out; have := L3.out; have := Lwz.out; have := L4.out; have := L5.out; have := Ggx0.out; have := L6.out; have := Gqx3.out; have := L7.out; have := Gqx4.out; have := L8.out; have := Lgz.out; have := L9.out; have := L10.out; have := L11.out; have := Gqy3.out; have := L12.out; have := L13.out; have := Gqy4.out; have := L14.out; have := L15.out; have := L16.out; have := L17.out; omega) B16.out.size)
  have KA0_17 : Hid (Blk x17 ga0 32 [.slice S0.secret.a S0.secret.n S0.secret.c]) := KA0_16.out.keep (k17.block _ KA0_16.out.lt (by have := L1.out; have := Gga.out; have := L2.out; have := L3.out; have := Lwz.out; have := L4.out; have := L5.out; have := Ggx0.out; have := L6.out; have := Gqx3.out; have := L7.out; have := Gqx4.out; have := L8.out; have := Lgz.out; have := L9.out; have := L10.out; have := L11.out; have := Gqy3.out; have := L12.out; have := L13.out; have := Gqy4.out; have := L14.out; have := L15.out; have := L16.out; have := L17.out; omega))
  have KA1_17 : Hid (Blk x17 ga1 34 [.int .i64 ah1, .int .i64 ap1]) := KA1_16.out.keep (k17.block _ KA1_16.out.lt (by have := L1.out; have := Gga.out; have := L2.out; have := L3.out; have := Lwz.out; have := L4.out; have := L5.out; have := Ggx0.out; have := L6.out; have := Gqx3.out; have := L7.out; have := Gqx4.out; have := L8.out; have := Lgz.out; have := L9.out; have := L10.out; have := L11.out; have := Gqy3.out; have := L12.out; have := L13.out; have := Gqy4.out; have := L14.out; have := L15.out; have := L16.out; have := L17.out; omega))
  have Ow0r_17 : Hid (SOwn x17 yw3.heap.size x3.heap.size Sw0 R0) := Ow0r_16.out.carry k17 (by have := L1.out; have := Gga.out; have := L2.out; have := L3.out; have := Lwz.out; have := L4.out; have := L5.out; have := Ggx0.out; have := L6.out; have := Gqx3.out; have := L7.out; have := Gqx4.out; have := L8.out; have := Lgz.out; have := L9.out; have := L10.out; have := L11.out; have := Gqy3.out; have := L12.out; have := L13.out; have := Gqy4.out; have := L14.out; have := L15.out; have := L16.out; have := L17.out; omega)
  have Og0r_17 : Hid (SOwn x17 yg0.heap.size x8.heap.size Sg0 R0) := Og0r_16.out.carry k17 (by have := L1.out; have := Gga.out; have := L2.out; have := L3.out; have := Lwz.out; have := L4.out; have := L5.out; have := Ggx0.out; have := L6.out; have := Gqx3.out; have := L7.out; have := Gqx4.out; have := L8.out; have := Lgz.out; have := L9.out; have := L10.out; have := L11.out; have := Gqy3.out; have := L12.out; have := L13.out; have := Gqy4.out; have := L14.out; have := L15.out; have := L16.out; have := L17.out; omega)
  clear k17 B16 KA0_16 KA1_16 Ow0r_16 Ox4_16 Og0r_16
  have hk0 : ¬ (((((1 : Int) + (jaSum Sx0 : Int)) + (s3.n : Int)) + (s4.n : Int)) < 0) := by omega
  go_wp2_with fail
  refine (eqB Sg0 Sw0 R0 R0 x17 Og0r_17.out.rd Ow0r_17.out.rd (by have := HRS0.out; omega) (by have := HRS0.out; omega)).mono ?_
  rw [decide_eq_true (show R0 = R0 from rfl)]
  rintro e x18 ⟨rfl, b18⟩
  have L18 : Hid (x17.heap.size ≤ x18.heap.size) := b18.size
  have B18 : Hid (Below w.heap.size w x18) := B17.out.trans (b18.mono B17.out.size)
  have KA0_18 : Hid (Blk x18 ga0 32 [.slice S0.secret.a S0.secret.n S0.secret.c]) := KA0_17.out.later b18
  have KA1_18 : Hid (Blk x18 ga1 34 [.int .i64 ah1, .int .i64 ap1]) := KA1_17.out.later b18
  have Ow0r_18 : Hid (SOwn x18 yw3.heap.size x3.heap.size Sw0 R0) := Ow0r_17.out.later b18
  have Og0r_18 : Hid (SOwn x18 yg0.heap.size x8.heap.size Sg0 R0) := Og0r_17.out.later b18
  clear b18 B17 KA0_17 KA1_17 Ow0r_17 Og0r_17
  have hms0 : (Sg0.n : Int) ≤ 1048576 := by have := Og0r_18.out.len; have := HRS0.out; omega
  go_wp2_with fail
  refine (markB Sg0 R0 (1 : Int) x18 yg0.heap.size x8.heap.size Og0r_18.out (by have := HRS0.out; omega) (by omega) (by omega)).mono ?_
  rintro e x19 ⟨rfl, og, k19, _⟩
  have L19 : Hid (x18.heap.size ≤ x19.heap.size) := k19.size
  have B19 : Hid (Below w.heap.size w x19) := B18.out.trans (k19.below (by have := L1.out; have := Gga.out; have := L2.out; have := L3.out; have := Lwz.out; have := L4.out; have := L5.out; have := Ggx0.out; have := L6.out; have := Gqx3.out; have := L7.out; have := Gqx4.out; have := L8.out; have := Lgz.out; have := L9.out; have := L10.out; have := L11.out; have := Gqy3.out; have := L12.out; have := L13.out; have := Gqy4.out; have := L14.out; have := L15.out; have := L16.out; have := L17.out; have := L18.out; have := L19.out; omega) B18.out.size)
  have KA0_19 : Hid (Blk x19 ga0 32 [.slice S0.secret.a S0.secret.n S0.secret.c]) := KA0_18.out.keep (k19.block _ KA0_18.out.lt (by have := L1.out; have := Gga.out; have := L2.out; have := L3.out; have := Lwz.out; have := L4.out; have := L5.out; have := Ggx0.out; have := L6.out; have := Gqx3.out; have := L7.out; have := Gqx4.out; have := L8.out; have := Lgz.out; have := L9.out; have := L10.out; have := L11.out; have := Gqy3.out; have := L12.out; have := L13.out; have := Gqy4.out; have := L14.out; have := L15.out; have := L16.out; have := L17.out; have := L18.out; have := L19.out; omega))
  have KA1_19 : Hid (Blk x19 ga1 34 [.int .i64 ah1, .int .i64 ap1]) := KA1_18.out.keep (k19.block _ KA1_18.out.lt (by have := L1.out; have := Gga.out; have := L2.out; have := L3.out; have := Lwz.out; have := L4.out; have := L5.out; have := Ggx0.out; have := L6.out; have := Gqx3.out; have := L7.out; have := Gqx4.out; have := L8.out; have := Lgz.out; have := L9.out; have := L10.out; have := L11.out; have := Gqy3.out; have := L12.out; have := L13.out; have := Gqy4.out; have := L14.out; have := L15.out; have := L16.out; have := L17.out; have := L18.out; have := L19.out; omega))
  have Ow0r_19 : Hid (SOwn x19 yw3.heap.size x3.heap.size Sw0 R0) := Ow0r_18.out.carry k19 (by have := L1.out; have := Gga.out; have := L2.out; have := L3.out; have := Lwz.out; have := L4.out; have := L5.out; have := Ggx0.out; have := L6.out; have := Gqx3.out; have := L7.out; have := Gqx4.out; have := L8.out; have := Lgz.out; have := L9.out; have := L10.out; have := L11.out; have := Gqy3.out; have := L12.out; have := L13.out; have := Gqy4.out; have := L14.out; have := L15.out; have := L16.out; have := L17.out; have := L18.out; have := L19.out; omega)
  clear k19 B18 KA0_18 KA1_18 Ow0r_18 Og0r_18
  have Og0r_19 : Hid (SOwn x19 yg0.heap.size x8.heap.size Sg0 (marks (1 : Int) Sg0.n)) := og
  clear og
  have hmm : (((1 : Int) + (Sg0.n : Int)) != ((1 : Int) + (Sg0.n : Int))) = false := by simp
  go_wp2_with fail
  refine (heldB Sg0 (1 : Int) x19 Og0r_19.out.rd (by omega) (by omega) (by omega)).mono ?_
  rintro e xz ⟨rfl, rfl⟩
  have hq19_0 : ¬ ((1 : Int) + (Sg0.n : Int) < 0) := by omega
  have BX : Hid (Below w.heap.size w x19) := B19.out
  have TD : Hid (Below x19.heap.size x19 x19.drew) := (Below.refl _ _).drew
  have HLB3 : Hid (l3.length ≤ 4194304) := by have := HL3.out; show _ ≤ _; omega
  have HLB4 : Hid (l4.length ≤ 4194304) := by have := HL4.out; show _ ≤ _; omega
  have dz0_0 := KA0_19.out.cell 0 rfl
  have dz1_0 := KA1_19.out.cell 0 rfl
  have dz1_1 := KA1_19.out.cell 1 rfl
  go_upto_region 36 with fail
  go_region_held3 (fun w' => w'.cell? ⟨ga0, 0, none⟩ = some (.slice S0.secret.a S0.secret.n S0.secret.c) ∧ w'.cell? ⟨ga1, 0, none⟩ = some (.int .i64 ah1) ∧ w'.cell? ⟨ga1, 1, none⟩ = some (.int .i64 ap1)) (first | exact ⟨dw0_0, dw1_0, dw1_1⟩ | exact ⟨d30_0, d31_0, d31_1⟩ | exact ⟨d20_0, d21_0, d21_1⟩ | exact ⟨d10_0, d11_0, d11_1⟩ | exact ⟨d00_0, d01_0, d01_1⟩ | exact ⟨dz0_0, dz1_0, dz1_1⟩ | go_keep)
   (first
    | (go_at_call 17; refine (CkJ.implMint Sh0 D0 ah1 ap1 a2 ⟨some ⟨yh1.heap.size, 0, none⟩, s3.n, s3.n⟩ ⟨some ⟨yh2.heap.size, 0, none⟩, s4.n, s4.n⟩ l3 l4 a5 yh3 (HT.out.later (BX.out.trans (Th3.out.mono BX.out.size))) Oh0_ppp.out.rd Oh3_p.out.rd Oh4_.out.rd).mono ?_; rw [HRD0.out]; rintro e x20 ⟨Sh0, rfl, o0, b⟩; have Thz : Hid (Below x19.heap.size x19 x20) := (Th3.out).trans (b.mono (Th3.out).size); have Lhz : Hid (x19.heap.size ≤ yh3.heap.size) := (Th3.out).size; have dw0_0 := (KA0_19.out.later Thz.out).cell 0 rfl; have dw1_0 := (KA1_19.out.later Thz.out).cell 0 rfl; have dw1_1 := (KA1_19.out.later Thz.out).cell 1 rfl; clear b)
    | (go_at_call 6; refine (toB s4 l4 yh2 (HR4.out.later (BX.out.trans (Th2.out.mono BX.out.size))) HLB4.out).mono ?_; rintro e yh3 ⟨rfl, o, b⟩; have Oh4_ : Hid (SOwn yh3 yh2.heap.size yh3.heap.size ⟨some ⟨yh2.heap.size, 0, none⟩, s4.n, s4.n⟩ l4) := o; have Th3 : Hid (Below x19.heap.size x19 yh3) := (Th2.out).trans (b.mono (Th2.out).size); have Oh0_ppp : Hid (JaOwn yh3 x19.drew.heap.size yh0.heap.size Sh0 D0) := Oh0_pp.out.later b; have Oh3_p : Hid (SOwn yh3 yh1.heap.size yh2.heap.size ⟨some ⟨yh1.heap.size, 0, none⟩, s3.n, s3.n⟩ l3) := Oh3_.out.later b; have d30_0 := (KA0_19.out.later Th3.out).cell 0 rfl; have d31_0 := (KA1_19.out.later Th3.out).cell 0 rfl; have d31_1 := (KA1_19.out.later Th3.out).cell 1 rfl; clear o b)
    | (go_at_call 6; refine (toB s3 l3 yh1 (HR3.out.later (BX.out.trans (Th1.out.mono BX.out.size))) HLB3.out).mono ?_; rintro e yh2 ⟨rfl, o, b⟩; have Oh3_ : Hid (SOwn yh2 yh1.heap.size yh2.heap.size ⟨some ⟨yh1.heap.size, 0, none⟩, s3.n, s3.n⟩ l3) := o; have Th2 : Hid (Below x19.heap.size x19 yh2) := (Th1.out).trans (b.mono (Th1.out).size); have Oh0_pp : Hid (JaOwn yh2 x19.drew.heap.size yh0.heap.size Sh0 D0) := Oh0_p.out.later b; have d20_0 := (KA0_19.out.later Th2.out).cell 0 rfl; have d21_0 := (KA1_19.out.later Th2.out).cell 0 rfl; have d21_1 := (KA1_19.out.later Th2.out).cell 1 rfl; clear o b)
    | (go_at_call 16; refine (AddrL.toAddr ah1 ap1 yh0).mono ?_; rintro e yh1 ⟨rfl, b⟩; have Th1 : Hid (Below x19.heap.size x19 yh1) := (Th0.out).trans (b.mono (Th0.out).size); have Oh0_p : Hid (JaOwn yh1 x19.drew.heap.size yh0.heap.size Sh0 D0) := Oh0_.out.later b; have d10_0 := (KA0_19.out.later Th1.out).cell 0 rfl; have d11_0 := (KA1_19.out.later Th1.out).cell 0 rfl; have d11_1 := (KA1_19.out.later Th1.out).cell 1 rfl; clear b)
    | (go_at_call 15; refine (toJar S0 D0 x19.drew (HR0.out.later (BX.out.trans (TD.out.mono BX.out.size))) HLL0.out).mono ?_; rintro e yh0 ⟨Sh0, rfl, o, b⟩; have Oh0_ : Hid (JaOwn yh0 x19.drew.heap.size yh0.heap.size Sh0 D0) := o; have Th0 : Hid (Below x19.heap.size x19 yh0) := (TD.out).trans (b.mono (TD.out).size); have d00_0 := (KA0_19.out.later Th0.out).cell 0 rfl; have d01_0 := (KA1_19.out.later Th0.out).cell 0 rfl; have d01_1 := (KA1_19.out.later Th0.out).cell 1 rfl; clear o b))
  clear dz0_0 dz1_0 dz1_1 dw0_0 dw1_0 dw1_1 d00_0 d01_0 d01_1 d10_0 d11_0 d11_1 d20_0 d21_0 d21_1 d30_0 d31_0 d31_1
  have b := Thz.out
  have L20 : Hid (x19.heap.size ≤ x20.heap.size) := b.size
  have B20 : Hid (Below w.heap.size w x20) := B19.out.trans (b.mono B19.out.size)
  have KA0_20 : Hid (Blk x20 ga0 32 [.slice S0.secret.a S0.secret.n S0.secret.c]) := KA0_19.out.later b
  have KA1_20 : Hid (Blk x20 ga1 34 [.int .i64 ah1, .int .i64 ap1]) := KA1_19.out.later b
  have Ow0r_20 : Hid (SOwn x20 yw3.heap.size x3.heap.size Sw0 R0) := Ow0r_19.out.later b
  have Og0r_20 : Hid (SOwn x20 yg0.heap.size x8.heap.size Sg0 (marks (1 : Int) Sg0.n)) := Og0r_19.out.later b
  clear b B19 KA0_19 KA1_19 Ow0r_19 Og0r_19
  clear BX TD HLB3 HLB4
  have Oh0r_20 : Hid (SOwn x20 yh3.heap.size x20.heap.size Sh0 R0) := o0
  clear o0
  go_upto_region 37 with fail
  go_wp2_with fail
  refine (eqB Sh0 Sw0 R0 R0 x20 Oh0r_20.out.rd Ow0r_20.out.rd (by have := HRS0.out; omega) (by have := HRS0.out; omega)).mono ?_
  rw [decide_eq_true (show R0 = R0 from rfl)]
  rintro e x21 ⟨rfl, b21⟩
  have L21 : Hid (x20.heap.size ≤ x21.heap.size) := b21.size
  have B21 : Hid (Below w.heap.size w x21) := B20.out.trans (b21.mono B20.out.size)
  have KA0_21 : Hid (Blk x21 ga0 32 [.slice S0.secret.a S0.secret.n S0.secret.c]) := KA0_20.out.later b21
  have KA1_21 : Hid (Blk x21 ga1 34 [.int .i64 ah1, .int .i64 ap1]) := KA1_20.out.later b21
  have Ow0r_21 : Hid (SOwn x21 yw3.heap.size x3.heap.size Sw0 R0) := Ow0r_20.out.later b21
  have Og0r_21 : Hid (SOwn x21 yg0.heap.size x8.heap.size Sg0 (marks (1 : Int) Sg0.n)) := Og0r_20.out.later b21
  have Oh0r_21 : Hid (SOwn x21 yh3.heap.size x20.heap.size Sh0 R0) := Oh0r_20.out.later b21
  clear b21 B20 KA0_20 KA1_20 Ow0r_20 Og0r_20 Oh0r_20
  go_wp2_with fail
  refine (heldB Sg0 (1 : Int) x21 Og0r_21.out.rd (by omega) (by omega) (by omega)).mono ?_
  rintro e xz ⟨rfl, rfl⟩
  have hq21_0 : ¬ ((1 : Int) + (Sg0.n : Int) < 0) := by omega
  go_wp2
  go_ret
  exact ⟨rfl, B21.out⟩
set_option maxRecDepth 100000 in
theorem walk1 (D0 : JaD) (S0 : JaS) (ah1 ap1 : Int) (a2 : Int) (a3 : Option Addr) (n3 c3 : Nat) (z3 : List Int) (a4 : Option Addr) (n4 c4 : Nat) (z4 : List Int) (a5 : Int) (w : World) (hT : Tab w) (h0 : JaRd w S0 D0) (m0 : JaSmall S0) (h3 : IsRow .u8 w a3 n3 c3 z3) (h4 : IsRow .u8 w a4 n4 c4 z4) :
    Calls Tryd.prog 4 #[jaV D0 S0, AddrS.addrV ah1 ap1, .int .i64 a2, .slice a3 n3 c3, .slice a4 n4 c4, .int .i64 a5] w fun e w' => e = .returned (.bool true) ∧ Below w.heap.size w w' := by
  obtain ⟨l3, r3⟩ := row_sl h3
  obtain ⟨l4, r4⟩ := row_sl h4
  exact walk D0 S0 ah1 ap1 a2 ⟨a3, n3, c3⟩ l3 ⟨a4, n4, c4⟩ l4 a5 w hT h0 m0 r3 r4
end Go.Proofs.YtpgapjdejelajaaDoor.LawMint
