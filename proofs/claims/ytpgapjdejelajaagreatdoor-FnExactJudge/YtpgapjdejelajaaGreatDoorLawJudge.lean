/-
  The walk of the law FnExactJudge: at every argument it answers true, and nothing that was there is written.
-/
import Derived.Test.YtpgapjdejelajaaGreatDoorGr17
import Derived.Test.YtpgapjdejelajaaGreatDoorCkU
import Derived.Test.YtpgapjdejelajaaGreatDoorGr8
import Derived.Test.YtpgapjdejelajaaGreatDoorGr4
import Derived.Test.YtpgapjdejelajaaGreatDoorGr5
import Derived.Test.YtpgapjdejelajaaGreatDoorGr12
import Derived.Test.YtpgapjdejelajaaGreatDoorAddrL
import Derived.Deep.RegionHeld3
namespace Go.Proofs.YtpgapjdejelajaaGreatDoor.LawJudge
open Go.RowKit Go.Proofs.YtpgapjdejelajaaGreatDoor.Mem Go.Proofs.YtpgapjdejelajaaGreatDoor.Blk Go.Proofs.YtpgapjdejelajaaGreatDoor.Zone Go.Proofs.YtpgapjdejelajaaGreatDoor.ZoneB Go.Proofs.YtpgapjdejelajaaGreatDoor.ZoneI Go.Proofs.YtpgapjdejelajaaGreatDoor.MemI Go.Proofs.YtpgapjdejelajaaGreatDoor.Each Go.Proofs.YtpgapjdejelajaaGreatDoor.Copy Go.Proofs.YtpgapjdejelajaaGreatDoor.Ops Go.Proofs.YtpgapjdejelajaaGreatDoor.Shp Go.Proofs.YtpgapjdejelajaaGreatDoor.App Go.Proofs.YtpgapjdejelajaaGreatDoor.JaZ Go.Proofs.YtpgapjdejelajaaGreatDoor.JaL Go.Proofs.YtpgapjdejelajaaGreatDoor.CkP Go.Proofs.YtpgapjdejelajaaGreatDoor.CkQ Go.Proofs.YtpgapjdejelajaaGreatDoor.Comp Go.Proofs.YtpgapjdejelajaaGreatDoor.FrZ Go.Proofs.YtpgapjdejelajaaGreatDoor.FrL Go.Proofs.YtpgapjdejelajaaGreatDoor.FrP

set_option maxRecDepth 100000 in
set_option maxHeartbeats 8000000 in
theorem walk (D0 : JaD) (S0 : JaS) (a1 : Int) (ah2 ap2 : Int) (D3 : FrD) (S3 : FrS) (w : World) (hT : Tab w) (h0 : JaRd w S0 D0) (m0 : JaSmall S0) (h3 : FrRd w S3 D3) (m3 : FrSmall S3) :
    Calls Tryz.prog 5 #[jaV D0 S0, .int .i64 a1, AddrS.addrV ah2 ap2, frV D3 S3] w fun e w' => e = .returned (.bool true) ∧ Below w.heap.size w w' := by
  obtain ⟨R0, hR0⟩ : ∃ R : Int, judgeC D0 a1 ah2 ap2 D3 = R := ⟨_, rfl⟩
  have HRD0 : Hid (judgeC D0 a1 ah2 ap2 D3 = R0) := hR0
  clear hR0
  have hvv0 : (R0 != R0) = false := by simp
  have HT : Hid (Tab w) := hT
  clear hT
  have HR0 : Hid (JaRd w S0 D0) := h0
  have HM0 : Hid (JaSmall S0) := m0
  have HR3 : Hid (FrRd w S3 D3) := h3
  have HM3 : Hid (FrSmall S3) := m3
  clear h0 h3 m0 m3
  obtain ⟨x1, hx1⟩ : ∃ x1, ((w.alloc (.cells #[.slice S0.secret.a S0.secret.n S0.secret.c] 46)).alloc (.cells #[.int .i64 ah2, .int .i64 ap2] 47)).alloc (.cells #[.int .i64 D3.kind, .int .i64 D3.id, .slice S3.cn.a S3.cn.n S3.cn.c, .slice S3.sn.a S3.sn.n S3.sn.c, .int .i64 D3.tick, .slice S3.cookie.a S3.cookie.n S3.cookie.c, .slice S3.proof.a S3.proof.n S3.proof.c, .int .i64 D3.epoch, .int .i64 D3.seq, .slice S3.body.a S3.body.n S3.body.c, .slice S3.tag.a S3.tag.n S3.tag.c] 48) = x1 := ⟨_, rfl⟩
  have HW0 : Hid (((w.alloc (.cells #[.slice S0.secret.a S0.secret.n S0.secret.c] 46)).alloc (.cells #[.int .i64 ah2, .int .i64 ap2] 47)).alloc (.cells #[.int .i64 D3.kind, .int .i64 D3.id, .slice S3.cn.a S3.cn.n S3.cn.c, .slice S3.sn.a S3.sn.n S3.sn.c, .int .i64 D3.tick, .slice S3.cookie.a S3.cookie.n S3.cookie.c, .slice S3.proof.a S3.proof.n S3.proof.c, .int .i64 D3.epoch, .int .i64 D3.seq, .slice S3.body.a S3.body.n S3.body.c, .slice S3.tag.a S3.tag.n S3.tag.c] 48) = x1) := hx1
  have b1 : Below w.heap.size w x1 := by rw [← hx1]; exact (((Below.refl _ _).alloc (Nat.le_refl _) _).alloc (by simp) _).alloc (by simp; omega) _
  have KN0 : Blk x1 (w.heap.size) 46 [.slice S0.secret.a S0.secret.n S0.secret.c] := by
    have q := Blk.new (w) 46 [.slice S0.secret.a S0.secret.n S0.secret.c]
    rw [← hx1]; exact (q.alloc _).alloc _
  have KN2 : Blk x1 (w.heap.size + 1) 47 [.int .i64 ah2, .int .i64 ap2] := by
    have q := Blk.new ((w).alloc (.cells #[.slice S0.secret.a S0.secret.n S0.secret.c] 46)) 47 [.int .i64 ah2, .int .i64 ap2]
    rw [World.size_alloc] at q
    rw [← hx1]; exact q.alloc _
  have KN3 : Blk x1 (w.heap.size + 1 + 1) 48 [.int .i64 D3.kind, .int .i64 D3.id, .slice S3.cn.a S3.cn.n S3.cn.c, .slice S3.sn.a S3.sn.n S3.sn.c, .int .i64 D3.tick, .slice S3.cookie.a S3.cookie.n S3.cookie.c, .slice S3.proof.a S3.proof.n S3.proof.c, .int .i64 D3.epoch, .int .i64 D3.seq, .slice S3.body.a S3.body.n S3.body.c, .slice S3.tag.a S3.tag.n S3.tag.c] := by
    have q := Blk.new (((w).alloc (.cells #[.slice S0.secret.a S0.secret.n S0.secret.c] 46)).alloc (.cells #[.int .i64 ah2, .int .i64 ap2] 47)) 48 [.int .i64 D3.kind, .int .i64 D3.id, .slice S3.cn.a S3.cn.n S3.cn.c, .slice S3.sn.a S3.sn.n S3.sn.c, .int .i64 D3.tick, .slice S3.cookie.a S3.cookie.n S3.cookie.c, .slice S3.proof.a S3.proof.n S3.proof.c, .int .i64 D3.epoch, .int .i64 D3.seq, .slice S3.body.a S3.body.n S3.body.c, .slice S3.tag.a S3.tag.n S3.tag.c]
    rw [World.size_alloc, World.size_alloc] at q
    rw [← hx1]; exact q
  have SZ1 : x1.heap.size = w.heap.size + 3 := by rw [← hx1]; simp
  clear hx1
  have L1 : Hid (w.heap.size ≤ x1.heap.size) := b1.size
  have B1 : Hid (Below w.heap.size w x1) := b1
  clear b1
  unfold AddrS.addrV frV jaV
  go_enter Tryz.func5, Tryz.ntmps5
  go_upto_region 1 with fail
  rw [HW0.out]
  obtain ⟨ga0, hga0⟩ : ∃ g, w.heap.size = g := ⟨_, rfl⟩
  obtain ⟨ga2, hga2⟩ : ∃ g, w.heap.size + 1 = g := ⟨_, rfl⟩
  obtain ⟨ga3, hga3⟩ : ∃ g, w.heap.size + 1 + 1 = g := ⟨_, rfl⟩
  have Gga : Hid (w.heap.size + 0 = ga0 ∧ w.heap.size + 1 = ga2 ∧ w.heap.size + 2 = ga3 ∧ x1.heap.size = w.heap.size + 3) := ⟨by omega, by omega, by omega, SZ1⟩
  rw [hga0] at KN0
  rw [hga2] at KN2
  rw [hga3] at KN3
  rw [hga3, hga2, hga0]
  clear HW0 SZ1 hga0 hga2 hga3
  have KA0_1 : Hid (Blk x1 ga0 46 [.slice S0.secret.a S0.secret.n S0.secret.c]) := KN0
  clear KN0
  have KA2_1 : Hid (Blk x1 ga2 47 [.int .i64 ah2, .int .i64 ap2]) := KN2
  clear KN2
  have KA3_1 : Hid (Blk x1 ga3 48 [.int .i64 D3.kind, .int .i64 D3.id, .slice S3.cn.a S3.cn.n S3.cn.c, .slice S3.sn.a S3.sn.n S3.sn.c, .int .i64 D3.tick, .slice S3.cookie.a S3.cookie.n S3.cookie.c, .slice S3.proof.a S3.proof.n S3.proof.c, .int .i64 D3.epoch, .int .i64 D3.seq, .slice S3.body.a S3.body.n S3.body.c, .slice S3.tag.a S3.tag.n S3.tag.c]) := KN3
  clear KN3
  have c0 := KA0_1.out.cell 0 rfl
  go_wp2_with fail
  refine (szJar S0 D0 (1048576 : Int) x1 HM0.out (by omega) (by omega)).mono ?_
  rintro e x2 ⟨rfl, b2⟩
  clear c0
  have L2 : Hid (x1.heap.size ≤ x2.heap.size) := b2.size
  have B2 : Hid (Below w.heap.size w x2) := B1.out.trans (b2.mono B1.out.size)
  have KA0_2 : Hid (Blk x2 ga0 46 [.slice S0.secret.a S0.secret.n S0.secret.c]) := KA0_1.out.later b2
  have KA2_2 : Hid (Blk x2 ga2 47 [.int .i64 ah2, .int .i64 ap2]) := KA2_1.out.later b2
  have KA3_2 : Hid (Blk x2 ga3 48 [.int .i64 D3.kind, .int .i64 D3.id, .slice S3.cn.a S3.cn.n S3.cn.c, .slice S3.sn.a S3.sn.n S3.sn.c, .int .i64 D3.tick, .slice S3.cookie.a S3.cookie.n S3.cookie.c, .slice S3.proof.a S3.proof.n S3.proof.c, .int .i64 D3.epoch, .int .i64 D3.seq, .slice S3.body.a S3.body.n S3.body.c, .slice S3.tag.a S3.tag.n S3.tag.c]) := KA3_1.out.later b2
  clear b2 B1 KA0_1 KA2_1 KA3_1
  by_cases hsum0 : (1048576 : Int) - (jaSum S0 : Int) < 0
  · rw [if_pos hsum0]
    go_wp2
    go_ret
    exact ⟨rfl, B2.out⟩
  rw [if_neg hsum0]
  have HL0 : Hid (JaShort D0 1048576) := ja_short_of HR0.out (by omega)
  have HLL0 : Hid (JaShort D0 4194304) := ja_short_le HL0.out (by omega)
  have c0 := KA3_2.out.cell 0 rfl
  have c1 := KA3_2.out.cell 1 rfl
  have c2 := KA3_2.out.cell 2 rfl
  have c3 := KA3_2.out.cell 3 rfl
  have c4 := KA3_2.out.cell 4 rfl
  have c5 := KA3_2.out.cell 5 rfl
  have c6 := KA3_2.out.cell 6 rfl
  have c7 := KA3_2.out.cell 7 rfl
  have c8 := KA3_2.out.cell 8 rfl
  have c9 := KA3_2.out.cell 9 rfl
  have c10 := KA3_2.out.cell 10 rfl
  go_wp2_with fail
  refine (szFrame S3 D3 ((1048576 : Int) - (jaSum S0 : Int)) x2 HM3.out (by omega) (by omega)).mono ?_
  rintro e x3 ⟨rfl, b3⟩
  clear c0 c1 c2 c3 c4 c5 c6 c7 c8 c9 c10
  have L3 : Hid (x2.heap.size ≤ x3.heap.size) := b3.size
  have B3 : Hid (Below w.heap.size w x3) := B2.out.trans (b3.mono B2.out.size)
  have KA0_3 : Hid (Blk x3 ga0 46 [.slice S0.secret.a S0.secret.n S0.secret.c]) := KA0_2.out.later b3
  have KA2_3 : Hid (Blk x3 ga2 47 [.int .i64 ah2, .int .i64 ap2]) := KA2_2.out.later b3
  have KA3_3 : Hid (Blk x3 ga3 48 [.int .i64 D3.kind, .int .i64 D3.id, .slice S3.cn.a S3.cn.n S3.cn.c, .slice S3.sn.a S3.sn.n S3.sn.c, .int .i64 D3.tick, .slice S3.cookie.a S3.cookie.n S3.cookie.c, .slice S3.proof.a S3.proof.n S3.proof.c, .int .i64 D3.epoch, .int .i64 D3.seq, .slice S3.body.a S3.body.n S3.body.c, .slice S3.tag.a S3.tag.n S3.tag.c]) := KA3_2.out.later b3
  clear b3 B2 KA0_2 KA2_2 KA3_2
  by_cases hsum3 : ((1048576 : Int) - (jaSum S0 : Int)) - (frSum S3 : Int) < 0
  · rw [if_pos hsum3]
    go_wp2
    go_ret
    exact ⟨rfl, B3.out⟩
  rw [if_neg hsum3]
  have HL3 : Hid (FrShort D3 1048576) := fr_short_of HR3.out (by omega)
  have HLL3 : Hid (FrShort D3 4194304) := fr_short_le HL3.out (by omega)
  have BX : Hid (Below w.heap.size w x3) := B3.out
  have TD : Hid (Below x3.heap.size x3 x3.drew) := (Below.refl _ _).drew
  have dz0_0 := KA0_3.out.cell 0 rfl
  have dz2_0 := KA2_3.out.cell 0 rfl
  have dz2_1 := KA2_3.out.cell 1 rfl
  have dz3_0 := KA3_3.out.cell 0 rfl
  have dz3_1 := KA3_3.out.cell 1 rfl
  have dz3_2 := KA3_3.out.cell 2 rfl
  have dz3_3 := KA3_3.out.cell 3 rfl
  have dz3_4 := KA3_3.out.cell 4 rfl
  have dz3_5 := KA3_3.out.cell 5 rfl
  have dz3_6 := KA3_3.out.cell 6 rfl
  have dz3_7 := KA3_3.out.cell 7 rfl
  have dz3_8 := KA3_3.out.cell 8 rfl
  have dz3_9 := KA3_3.out.cell 9 rfl
  have dz3_10 := KA3_3.out.cell 10 rfl
  go_upto_region 8 with fail
  go_region_held3 (fun w' => w'.cell? ⟨ga0, 0, none⟩ = some (.slice S0.secret.a S0.secret.n S0.secret.c) ∧ w'.cell? ⟨ga2, 0, none⟩ = some (.int .i64 ah2) ∧ w'.cell? ⟨ga2, 1, none⟩ = some (.int .i64 ap2) ∧ w'.cell? ⟨ga3, 0, none⟩ = some (.int .i64 D3.kind) ∧ w'.cell? ⟨ga3, 1, none⟩ = some (.int .i64 D3.id) ∧ w'.cell? ⟨ga3, 2, none⟩ = some (.slice S3.cn.a S3.cn.n S3.cn.c) ∧ w'.cell? ⟨ga3, 3, none⟩ = some (.slice S3.sn.a S3.sn.n S3.sn.c) ∧ w'.cell? ⟨ga3, 4, none⟩ = some (.int .i64 D3.tick) ∧ w'.cell? ⟨ga3, 5, none⟩ = some (.slice S3.cookie.a S3.cookie.n S3.cookie.c) ∧ w'.cell? ⟨ga3, 6, none⟩ = some (.slice S3.proof.a S3.proof.n S3.proof.c) ∧ w'.cell? ⟨ga3, 7, none⟩ = some (.int .i64 D3.epoch) ∧ w'.cell? ⟨ga3, 8, none⟩ = some (.int .i64 D3.seq) ∧ w'.cell? ⟨ga3, 9, none⟩ = some (.slice S3.body.a S3.body.n S3.body.c) ∧ w'.cell? ⟨ga3, 10, none⟩ = some (.slice S3.tag.a S3.tag.n S3.tag.c)) (first | exact ⟨dw0_0, dw2_0, dw2_1, dw3_0, dw3_1, dw3_2, dw3_3, dw3_4, dw3_5, dw3_6, dw3_7, dw3_8, dw3_9, dw3_10⟩ | exact ⟨d20_0, d22_0, d22_1, d23_0, d23_1, d23_2, d23_3, d23_4, d23_5, d23_6, d23_7, d23_8, d23_9, d23_10⟩ | exact ⟨d10_0, d12_0, d12_1, d13_0, d13_1, d13_2, d13_3, d13_4, d13_5, d13_6, d13_7, d13_8, d13_9, d13_10⟩ | exact ⟨d00_0, d02_0, d02_1, d03_0, d03_1, d03_2, d03_3, d03_4, d03_5, d03_6, d03_7, d03_8, d03_9, d03_10⟩ | exact ⟨dz0_0, dz2_0, dz2_1, dz3_0, dz3_1, dz3_2, dz3_3, dz3_4, dz3_5, dz3_6, dz3_7, dz3_8, dz3_9, dz3_10⟩ | go_keep)
   (first
    | (go_at_call 20; refine (CkU.specJudge Sw0 D0 a1 ah2 ap2 Sw3 D3 yw2 Ow0_pp.out.rd Ow3_.out.rd).mono ?_; rw [HRD0.out]; rintro e x4 ⟨rfl, b⟩; have Twz : Hid (Below x3.heap.size x3 x4) := (Tw2.out).trans (b.mono (Tw2.out).size); have Lwz : Hid (x3.heap.size ≤ yw2.heap.size) := (Tw2.out).size; have dw0_0 := (KA0_3.out.later Twz.out).cell 0 rfl; have dw2_0 := (KA2_3.out.later Twz.out).cell 0 rfl; have dw2_1 := (KA2_3.out.later Twz.out).cell 1 rfl; have dw3_0 := (KA3_3.out.later Twz.out).cell 0 rfl; have dw3_1 := (KA3_3.out.later Twz.out).cell 1 rfl; have dw3_2 := (KA3_3.out.later Twz.out).cell 2 rfl; have dw3_3 := (KA3_3.out.later Twz.out).cell 3 rfl; have dw3_4 := (KA3_3.out.later Twz.out).cell 4 rfl; have dw3_5 := (KA3_3.out.later Twz.out).cell 5 rfl; have dw3_6 := (KA3_3.out.later Twz.out).cell 6 rfl; have dw3_7 := (KA3_3.out.later Twz.out).cell 7 rfl; have dw3_8 := (KA3_3.out.later Twz.out).cell 8 rfl; have dw3_9 := (KA3_3.out.later Twz.out).cell 9 rfl; have dw3_10 := (KA3_3.out.later Twz.out).cell 10 rfl; clear b)
    | (go_at_call 27; refine (toFrame S3 D3 yw1 (HR3.out.later (BX.out.trans (Tw1.out.mono BX.out.size))) HLL3.out).mono ?_; rintro e yw2 ⟨Sw3, rfl, o, b⟩; have Ow3_ : Hid (FrOwn yw2 yw1.heap.size yw2.heap.size Sw3 D3) := o; have Tw2 : Hid (Below x3.heap.size x3 yw2) := (Tw1.out).trans (b.mono (Tw1.out).size); have Ow0_pp : Hid (JaOwn yw2 x3.drew.heap.size yw0.heap.size Sw0 D0) := Ow0_p.out.later b; have d20_0 := (KA0_3.out.later Tw2.out).cell 0 rfl; have d22_0 := (KA2_3.out.later Tw2.out).cell 0 rfl; have d22_1 := (KA2_3.out.later Tw2.out).cell 1 rfl; have d23_0 := (KA3_3.out.later Tw2.out).cell 0 rfl; have d23_1 := (KA3_3.out.later Tw2.out).cell 1 rfl; have d23_2 := (KA3_3.out.later Tw2.out).cell 2 rfl; have d23_3 := (KA3_3.out.later Tw2.out).cell 3 rfl; have d23_4 := (KA3_3.out.later Tw2.out).cell 4 rfl; have d23_5 := (KA3_3.out.later Tw2.out).cell 5 rfl; have d23_6 := (KA3_3.out.later Tw2.out).cell 6 rfl; have d23_7 := (KA3_3.out.later Tw2.out).cell 7 rfl; have d23_8 := (KA3_3.out.later Tw2.out).cell 8 rfl; have d23_9 := (KA3_3.out.later Tw2.out).cell 9 rfl; have d23_10 := (KA3_3.out.later Tw2.out).cell 10 rfl; clear o b)
    | (go_at_call 26; refine (AddrL.toAddr ah2 ap2 yw0).mono ?_; rintro e yw1 ⟨rfl, b⟩; have Tw1 : Hid (Below x3.heap.size x3 yw1) := (Tw0.out).trans (b.mono (Tw0.out).size); have Ow0_p : Hid (JaOwn yw1 x3.drew.heap.size yw0.heap.size Sw0 D0) := Ow0_.out.later b; have d10_0 := (KA0_3.out.later Tw1.out).cell 0 rfl; have d12_0 := (KA2_3.out.later Tw1.out).cell 0 rfl; have d12_1 := (KA2_3.out.later Tw1.out).cell 1 rfl; have d13_0 := (KA3_3.out.later Tw1.out).cell 0 rfl; have d13_1 := (KA3_3.out.later Tw1.out).cell 1 rfl; have d13_2 := (KA3_3.out.later Tw1.out).cell 2 rfl; have d13_3 := (KA3_3.out.later Tw1.out).cell 3 rfl; have d13_4 := (KA3_3.out.later Tw1.out).cell 4 rfl; have d13_5 := (KA3_3.out.later Tw1.out).cell 5 rfl; have d13_6 := (KA3_3.out.later Tw1.out).cell 6 rfl; have d13_7 := (KA3_3.out.later Tw1.out).cell 7 rfl; have d13_8 := (KA3_3.out.later Tw1.out).cell 8 rfl; have d13_9 := (KA3_3.out.later Tw1.out).cell 9 rfl; have d13_10 := (KA3_3.out.later Tw1.out).cell 10 rfl; clear b)
    | (go_at_call 25; refine (toJar S0 D0 x3.drew (HR0.out.later (BX.out.trans (TD.out.mono BX.out.size))) HLL0.out).mono ?_; rintro e yw0 ⟨Sw0, rfl, o, b⟩; have Ow0_ : Hid (JaOwn yw0 x3.drew.heap.size yw0.heap.size Sw0 D0) := o; have Tw0 : Hid (Below x3.heap.size x3 yw0) := (TD.out).trans (b.mono (TD.out).size); have d00_0 := (KA0_3.out.later Tw0.out).cell 0 rfl; have d02_0 := (KA2_3.out.later Tw0.out).cell 0 rfl; have d02_1 := (KA2_3.out.later Tw0.out).cell 1 rfl; have d03_0 := (KA3_3.out.later Tw0.out).cell 0 rfl; have d03_1 := (KA3_3.out.later Tw0.out).cell 1 rfl; have d03_2 := (KA3_3.out.later Tw0.out).cell 2 rfl; have d03_3 := (KA3_3.out.later Tw0.out).cell 3 rfl; have d03_4 := (KA3_3.out.later Tw0.out).cell 4 rfl; have d03_5 := (KA3_3.out.later Tw0.out).cell 5 rfl; have d03_6 := (KA3_3.out.later Tw0.out).cell 6 rfl; have d03_7 := (KA3_3.out.later Tw0.out).cell 7 rfl; have d03_8 := (KA3_3.out.later Tw0.out).cell 8 rfl; have d03_9 := (KA3_3.out.later Tw0.out).cell 9 rfl; have d03_10 := (KA3_3.out.later Tw0.out).cell 10 rfl; clear o b))
  clear dz0_0 dz2_0 dz2_1 dz3_0 dz3_1 dz3_2 dz3_3 dz3_4 dz3_5 dz3_6 dz3_7 dz3_8 dz3_9 dz3_10 dw0_0 dw2_0 dw2_1 dw3_0 dw3_1 dw3_2 dw3_3 dw3_4 dw3_5 dw3_6 dw3_7 dw3_8 dw3_9 dw3_10 d00_0 d02_0 d02_1 d03_0 d03_1 d03_2 d03_3 d03_4 d03_5 d03_6 d03_7 d03_8 d03_9 d03_10 d10_0 d12_0 d12_1 d13_0 d13_1 d13_2 d13_3 d13_4 d13_5 d13_6 d13_7 d13_8 d13_9 d13_10 d20_0 d22_0 d22_1 d23_0 d23_1 d23_2 d23_3 d23_4 d23_5 d23_6 d23_7 d23_8 d23_9 d23_10
  have b := Twz.out
  have L4 : Hid (x3.heap.size ≤ x4.heap.size) := b.size
  have B4 : Hid (Below w.heap.size w x4) := B3.out.trans (b.mono B3.out.size)
  have KA0_4 : Hid (Blk x4 ga0 46 [.slice S0.secret.a S0.secret.n S0.secret.c]) := KA0_3.out.later b
  have KA2_4 : Hid (Blk x4 ga2 47 [.int .i64 ah2, .int .i64 ap2]) := KA2_3.out.later b
  have KA3_4 : Hid (Blk x4 ga3 48 [.int .i64 D3.kind, .int .i64 D3.id, .slice S3.cn.a S3.cn.n S3.cn.c, .slice S3.sn.a S3.sn.n S3.sn.c, .int .i64 D3.tick, .slice S3.cookie.a S3.cookie.n S3.cookie.c, .slice S3.proof.a S3.proof.n S3.proof.c, .int .i64 D3.epoch, .int .i64 D3.seq, .slice S3.body.a S3.body.n S3.body.c, .slice S3.tag.a S3.tag.n S3.tag.c]) := KA3_3.out.later b
  clear b B3 KA0_3 KA2_3 KA3_3
  clear BX TD
  go_upto_region 9 with fail
  have c0 := KA0_4.out.cell 0 rfl
  go_wp2_with fail
  refine (toJar S0 D0 x4 (HR0.out.later B4.out) HLL0.out).mono ?_
  rintro e x5 ⟨Sx0, rfl, o, b5⟩
  clear c0
  have L5 : Hid (x4.heap.size ≤ x5.heap.size) := b5.size
  have B5 : Hid (Below w.heap.size w x5) := B4.out.trans (b5.mono B4.out.size)
  have KA0_5 : Hid (Blk x5 ga0 46 [.slice S0.secret.a S0.secret.n S0.secret.c]) := KA0_4.out.later b5
  have KA2_5 : Hid (Blk x5 ga2 47 [.int .i64 ah2, .int .i64 ap2]) := KA2_4.out.later b5
  have KA3_5 : Hid (Blk x5 ga3 48 [.int .i64 D3.kind, .int .i64 D3.id, .slice S3.cn.a S3.cn.n S3.cn.c, .slice S3.sn.a S3.sn.n S3.sn.c, .int .i64 D3.tick, .slice S3.cookie.a S3.cookie.n S3.cookie.c, .slice S3.proof.a S3.proof.n S3.proof.c, .int .i64 D3.epoch, .int .i64 D3.seq, .slice S3.body.a S3.body.n S3.body.c, .slice S3.tag.a S3.tag.n S3.tag.c]) := KA3_4.out.later b5
  clear b5 B4 KA0_4 KA2_4 KA3_4
  have Ox0_5 : Hid (JaOwn x5 x4.heap.size x5.heap.size Sx0 D0) := o
  clear o
  obtain ⟨x6, hx6⟩ : ∃ x6, x5.alloc (.cells #[.slice Sx0.secret.a Sx0.secret.n Sx0.secret.c] 25) = x6 := ⟨_, rfl⟩
  have HW6 : Hid (x5.alloc (.cells #[.slice Sx0.secret.a Sx0.secret.n Sx0.secret.c] 25) = x6) := hx6
  have b6 : Below x5.heap.size x5 x6 := by rw [← hx6]; exact (Below.refl _ _).alloc (Nat.le_refl _) _
  have KN : Blk x6 x5.heap.size 25 [.slice Sx0.secret.a Sx0.secret.n Sx0.secret.c] := by rw [← hx6]; exact Blk.new x5 _ _
  have HSZ6 : Hid (x6.heap.size = x5.heap.size + 1) := by rw [← hx6]; show _ = _; simp
  clear hx6
  have L6 : Hid (x5.heap.size ≤ x6.heap.size) := b6.size
  have B6 : Hid (Below w.heap.size w x6) := B5.out.trans (b6.mono B5.out.size)
  have KA0_6 : Hid (Blk x6 ga0 46 [.slice S0.secret.a S0.secret.n S0.secret.c]) := KA0_5.out.later b6
  have KA2_6 : Hid (Blk x6 ga2 47 [.int .i64 ah2, .int .i64 ap2]) := KA2_5.out.later b6
  have KA3_6 : Hid (Blk x6 ga3 48 [.int .i64 D3.kind, .int .i64 D3.id, .slice S3.cn.a S3.cn.n S3.cn.c, .slice S3.sn.a S3.sn.n S3.sn.c, .int .i64 D3.tick, .slice S3.cookie.a S3.cookie.n S3.cookie.c, .slice S3.proof.a S3.proof.n S3.proof.c, .int .i64 D3.epoch, .int .i64 D3.seq, .slice S3.body.a S3.body.n S3.body.c, .slice S3.tag.a S3.tag.n S3.tag.c]) := KA3_5.out.later b6
  have Ox0_6 : Hid (JaOwn x6 x4.heap.size x5.heap.size Sx0 D0) := Ox0_5.out.later b6
  clear b6 B5 KA0_5 KA2_5 KA3_5 Ox0_5
  unfold jaV
  go_upto_region 10 with fail
  rw [HW6.out]
  obtain ⟨gx0, hgx0⟩ : ∃ gx0, x5.heap.size = gx0 := ⟨_, rfl⟩
  have Ggx0 : Hid (x5.heap.size = gx0 ∧ x6.heap.size = gx0 + 1) := ⟨hgx0, by rw [← hgx0]; exact HSZ6.out⟩
  rw [hgx0] at KN ⊢
  clear HW6 HSZ6 hgx0
  have Kx0_6 : Hid (Blk x6 gx0 25 [.slice Sx0.secret.a Sx0.secret.n Sx0.secret.c]) := KN
  clear KN
  have c0 := KA3_6.out.cell 0 rfl
  have c1 := KA3_6.out.cell 1 rfl
  have c2 := KA3_6.out.cell 2 rfl
  have c3 := KA3_6.out.cell 3 rfl
  have c4 := KA3_6.out.cell 4 rfl
  have c5 := KA3_6.out.cell 5 rfl
  have c6 := KA3_6.out.cell 6 rfl
  have c7 := KA3_6.out.cell 7 rfl
  have c8 := KA3_6.out.cell 8 rfl
  have c9 := KA3_6.out.cell 9 rfl
  have c10 := KA3_6.out.cell 10 rfl
  go_wp2_with fail
  refine (toFrame S3 D3 x6 (HR3.out.later B6.out) HLL3.out).mono ?_
  rintro e x7 ⟨Sx3, rfl, o, b7⟩
  clear c0 c1 c2 c3 c4 c5 c6 c7 c8 c9 c10
  have L7 : Hid (x6.heap.size ≤ x7.heap.size) := b7.size
  have B7 : Hid (Below w.heap.size w x7) := B6.out.trans (b7.mono B6.out.size)
  have KA0_7 : Hid (Blk x7 ga0 46 [.slice S0.secret.a S0.secret.n S0.secret.c]) := KA0_6.out.later b7
  have KA2_7 : Hid (Blk x7 ga2 47 [.int .i64 ah2, .int .i64 ap2]) := KA2_6.out.later b7
  have KA3_7 : Hid (Blk x7 ga3 48 [.int .i64 D3.kind, .int .i64 D3.id, .slice S3.cn.a S3.cn.n S3.cn.c, .slice S3.sn.a S3.sn.n S3.sn.c, .int .i64 D3.tick, .slice S3.cookie.a S3.cookie.n S3.cookie.c, .slice S3.proof.a S3.proof.n S3.proof.c, .int .i64 D3.epoch, .int .i64 D3.seq, .slice S3.body.a S3.body.n S3.body.c, .slice S3.tag.a S3.tag.n S3.tag.c]) := KA3_6.out.later b7
  have Ox0_7 : Hid (JaOwn x7 x4.heap.size x5.heap.size Sx0 D0) := Ox0_6.out.later b7
  have Kx0_7 : Hid (Blk x7 gx0 25 [.slice Sx0.secret.a Sx0.secret.n Sx0.secret.c]) := Kx0_6.out.later b7
  clear b7 B6 KA0_6 KA2_6 KA3_6 Ox0_6 Kx0_6
  have Ox3_7 : Hid (FrOwn x7 x6.heap.size x7.heap.size Sx3 D3) := o
  clear o
  obtain ⟨x8, hx8⟩ : ∃ x8, x7.alloc (.cells #[.int .i64 D3.kind, .int .i64 D3.id, .slice Sx3.cn.a Sx3.cn.n Sx3.cn.c, .slice Sx3.sn.a Sx3.sn.n Sx3.sn.c, .int .i64 D3.tick, .slice Sx3.cookie.a Sx3.cookie.n Sx3.cookie.c, .slice Sx3.proof.a Sx3.proof.n Sx3.proof.c, .int .i64 D3.epoch, .int .i64 D3.seq, .slice Sx3.body.a Sx3.body.n Sx3.body.c, .slice Sx3.tag.a Sx3.tag.n Sx3.tag.c] 35) = x8 := ⟨_, rfl⟩
  have HW8 : Hid (x7.alloc (.cells #[.int .i64 D3.kind, .int .i64 D3.id, .slice Sx3.cn.a Sx3.cn.n Sx3.cn.c, .slice Sx3.sn.a Sx3.sn.n Sx3.sn.c, .int .i64 D3.tick, .slice Sx3.cookie.a Sx3.cookie.n Sx3.cookie.c, .slice Sx3.proof.a Sx3.proof.n Sx3.proof.c, .int .i64 D3.epoch, .int .i64 D3.seq, .slice Sx3.body.a Sx3.body.n Sx3.body.c, .slice Sx3.tag.a Sx3.tag.n Sx3.tag.c] 35) = x8) := hx8
  have b8 : Below x7.heap.size x7 x8 := by rw [← hx8]; exact (Below.refl _ _).alloc (Nat.le_refl _) _
  have KN : Blk x8 x7.heap.size 35 [.int .i64 D3.kind, .int .i64 D3.id, .slice Sx3.cn.a Sx3.cn.n Sx3.cn.c, .slice Sx3.sn.a Sx3.sn.n Sx3.sn.c, .int .i64 D3.tick, .slice Sx3.cookie.a Sx3.cookie.n Sx3.cookie.c, .slice Sx3.proof.a Sx3.proof.n Sx3.proof.c, .int .i64 D3.epoch, .int .i64 D3.seq, .slice Sx3.body.a Sx3.body.n Sx3.body.c, .slice Sx3.tag.a Sx3.tag.n Sx3.tag.c] := by rw [← hx8]; exact Blk.new x7 _ _
  have HSZ8 : Hid (x8.heap.size = x7.heap.size + 1) := by rw [← hx8]; show _ = _; simp
  clear hx8
  have L8 : Hid (x7.heap.size ≤ x8.heap.size) := b8.size
  have B8 : Hid (Below w.heap.size w x8) := B7.out.trans (b8.mono B7.out.size)
  have KA0_8 : Hid (Blk x8 ga0 46 [.slice S0.secret.a S0.secret.n S0.secret.c]) := KA0_7.out.later b8
  have KA2_8 : Hid (Blk x8 ga2 47 [.int .i64 ah2, .int .i64 ap2]) := KA2_7.out.later b8
  have KA3_8 : Hid (Blk x8 ga3 48 [.int .i64 D3.kind, .int .i64 D3.id, .slice S3.cn.a S3.cn.n S3.cn.c, .slice S3.sn.a S3.sn.n S3.sn.c, .int .i64 D3.tick, .slice S3.cookie.a S3.cookie.n S3.cookie.c, .slice S3.proof.a S3.proof.n S3.proof.c, .int .i64 D3.epoch, .int .i64 D3.seq, .slice S3.body.a S3.body.n S3.body.c, .slice S3.tag.a S3.tag.n S3.tag.c]) := KA3_7.out.later b8
  have Ox0_8 : Hid (JaOwn x8 x4.heap.size x5.heap.size Sx0 D0) := Ox0_7.out.later b8
  have Kx0_8 : Hid (Blk x8 gx0 25 [.slice Sx0.secret.a Sx0.secret.n Sx0.secret.c]) := Kx0_7.out.later b8
  have Ox3_8 : Hid (FrOwn x8 x6.heap.size x7.heap.size Sx3 D3) := Ox3_7.out.later b8
  clear b8 B7 KA0_7 KA2_7 KA3_7 Ox0_7 Kx0_7 Ox3_7
  unfold frV
  go_upto_region 11 with fail
  rw [HW8.out]
  obtain ⟨gx3, hgx3⟩ : ∃ gx3, x7.heap.size = gx3 := ⟨_, rfl⟩
  have Ggx3 : Hid (x7.heap.size = gx3 ∧ x8.heap.size = gx3 + 1) := ⟨hgx3, by rw [← hgx3]; exact HSZ8.out⟩
  rw [hgx3] at KN ⊢
  clear HW8 HSZ8 hgx3
  have Kx3_8 : Hid (Blk x8 gx3 35 [.int .i64 D3.kind, .int .i64 D3.id, .slice Sx3.cn.a Sx3.cn.n Sx3.cn.c, .slice Sx3.sn.a Sx3.sn.n Sx3.sn.c, .int .i64 D3.tick, .slice Sx3.cookie.a Sx3.cookie.n Sx3.cookie.c, .slice Sx3.proof.a Sx3.proof.n Sx3.proof.c, .int .i64 D3.epoch, .int .i64 D3.seq, .slice Sx3.body.a Sx3.body.n Sx3.body.c, .slice Sx3.tag.a Sx3.tag.n Sx3.tag.c]) := KN
  clear KN
  have BX : Hid (Below w.heap.size w x8) := B8.out
  have TD : Hid (Below x8.heap.size x8 x8.drew) := (Below.refl _ _).drew
  have dz2_0 := KA2_8.out.cell 0 rfl
  have dz2_1 := KA2_8.out.cell 1 rfl
  have dzx0_0 := Kx0_8.out.cell 0 rfl
  have dzx3_0 := Kx3_8.out.cell 0 rfl
  have dzx3_1 := Kx3_8.out.cell 1 rfl
  have dzx3_2 := Kx3_8.out.cell 2 rfl
  have dzx3_3 := Kx3_8.out.cell 3 rfl
  have dzx3_4 := Kx3_8.out.cell 4 rfl
  have dzx3_5 := Kx3_8.out.cell 5 rfl
  have dzx3_6 := Kx3_8.out.cell 6 rfl
  have dzx3_7 := Kx3_8.out.cell 7 rfl
  have dzx3_8 := Kx3_8.out.cell 8 rfl
  have dzx3_9 := Kx3_8.out.cell 9 rfl
  have dzx3_10 := Kx3_8.out.cell 10 rfl
  go_upto_region 11 with fail
  go_region_held3 (fun w' => w'.cell? ⟨ga2, 0, none⟩ = some (.int .i64 ah2) ∧ w'.cell? ⟨ga2, 1, none⟩ = some (.int .i64 ap2) ∧ w'.cell? ⟨gx0, 0, none⟩ = some (.slice Sx0.secret.a Sx0.secret.n Sx0.secret.c) ∧ w'.cell? ⟨gx3, 0, none⟩ = some (.int .i64 D3.kind) ∧ w'.cell? ⟨gx3, 1, none⟩ = some (.int .i64 D3.id) ∧ w'.cell? ⟨gx3, 2, none⟩ = some (.slice Sx3.cn.a Sx3.cn.n Sx3.cn.c) ∧ w'.cell? ⟨gx3, 3, none⟩ = some (.slice Sx3.sn.a Sx3.sn.n Sx3.sn.c) ∧ w'.cell? ⟨gx3, 4, none⟩ = some (.int .i64 D3.tick) ∧ w'.cell? ⟨gx3, 5, none⟩ = some (.slice Sx3.cookie.a Sx3.cookie.n Sx3.cookie.c) ∧ w'.cell? ⟨gx3, 6, none⟩ = some (.slice Sx3.proof.a Sx3.proof.n Sx3.proof.c) ∧ w'.cell? ⟨gx3, 7, none⟩ = some (.int .i64 D3.epoch) ∧ w'.cell? ⟨gx3, 8, none⟩ = some (.int .i64 D3.seq) ∧ w'.cell? ⟨gx3, 9, none⟩ = some (.slice Sx3.body.a Sx3.body.n Sx3.body.c) ∧ w'.cell? ⟨gx3, 10, none⟩ = some (.slice Sx3.tag.a Sx3.tag.n Sx3.tag.c)) (first | exact ⟨dw2_0, dw2_1, dwx0_0, dwx3_0, dwx3_1, dwx3_2, dwx3_3, dwx3_4, dwx3_5, dwx3_6, dwx3_7, dwx3_8, dwx3_9, dwx3_10⟩ | exact ⟨d02_0, d02_1, d0x0_0, d0x3_0, d0x3_1, d0x3_2, d0x3_3, d0x3_4, d0x3_5, d0x3_6, d0x3_7, d0x3_8, d0x3_9, d0x3_10⟩ | exact ⟨dz2_0, dz2_1, dzx0_0, dzx3_0, dzx3_1, dzx3_2, dzx3_3, dzx3_4, dzx3_5, dzx3_6, dzx3_7, dzx3_8, dzx3_9, dzx3_10⟩ | go_keep)
   (first
    | (go_at_call 15; refine (CkV.implJudge Sx0 D0 a1 ah2 ap2 Sx3 D3 yg0 (HT.out.later (BX.out.trans (Tg0.out.mono BX.out.size))) (Ox0_8.out.later (Tg0.out)).rd (Ox3_8.out.later (Tg0.out)).rd).mono ?_; rw [HRD0.out]; rintro e x9 ⟨rfl, b⟩; have Tgz : Hid (Below x8.heap.size x8 x9) := (Tg0.out).trans (b.mono (Tg0.out).size); have Lgz : Hid (x8.heap.size ≤ yg0.heap.size) := (Tg0.out).size; have dw2_0 := (KA2_8.out.later Tgz.out).cell 0 rfl; have dw2_1 := (KA2_8.out.later Tgz.out).cell 1 rfl; have dwx0_0 := (Kx0_8.out.later Tgz.out).cell 0 rfl; have dwx3_0 := (Kx3_8.out.later Tgz.out).cell 0 rfl; have dwx3_1 := (Kx3_8.out.later Tgz.out).cell 1 rfl; have dwx3_2 := (Kx3_8.out.later Tgz.out).cell 2 rfl; have dwx3_3 := (Kx3_8.out.later Tgz.out).cell 3 rfl; have dwx3_4 := (Kx3_8.out.later Tgz.out).cell 4 rfl; have dwx3_5 := (Kx3_8.out.later Tgz.out).cell 5 rfl; have dwx3_6 := (Kx3_8.out.later Tgz.out).cell 6 rfl; have dwx3_7 := (Kx3_8.out.later Tgz.out).cell 7 rfl; have dwx3_8 := (Kx3_8.out.later Tgz.out).cell 8 rfl; have dwx3_9 := (Kx3_8.out.later Tgz.out).cell 9 rfl; have dwx3_10 := (Kx3_8.out.later Tgz.out).cell 10 rfl; clear b)
    | (go_at_call 26; refine (AddrL.toAddr ah2 ap2 x8.drew).mono ?_; rintro e yg0 ⟨rfl, b⟩; have Tg0 : Hid (Below x8.heap.size x8 yg0) := (TD.out).trans (b.mono (TD.out).size); have d02_0 := (KA2_8.out.later Tg0.out).cell 0 rfl; have d02_1 := (KA2_8.out.later Tg0.out).cell 1 rfl; have d0x0_0 := (Kx0_8.out.later Tg0.out).cell 0 rfl; have d0x3_0 := (Kx3_8.out.later Tg0.out).cell 0 rfl; have d0x3_1 := (Kx3_8.out.later Tg0.out).cell 1 rfl; have d0x3_2 := (Kx3_8.out.later Tg0.out).cell 2 rfl; have d0x3_3 := (Kx3_8.out.later Tg0.out).cell 3 rfl; have d0x3_4 := (Kx3_8.out.later Tg0.out).cell 4 rfl; have d0x3_5 := (Kx3_8.out.later Tg0.out).cell 5 rfl; have d0x3_6 := (Kx3_8.out.later Tg0.out).cell 6 rfl; have d0x3_7 := (Kx3_8.out.later Tg0.out).cell 7 rfl; have d0x3_8 := (Kx3_8.out.later Tg0.out).cell 8 rfl; have d0x3_9 := (Kx3_8.out.later Tg0.out).cell 9 rfl; have d0x3_10 := (Kx3_8.out.later Tg0.out).cell 10 rfl; clear b))
  clear dz2_0 dz2_1 dzx0_0 dzx3_0 dzx3_1 dzx3_2 dzx3_3 dzx3_4 dzx3_5 dzx3_6 dzx3_7 dzx3_8 dzx3_9 dzx3_10 dw2_0 dw2_1 dwx0_0 dwx3_0 dwx3_1 dwx3_2 dwx3_3 dwx3_4 dwx3_5 dwx3_6 dwx3_7 dwx3_8 dwx3_9 dwx3_10 d02_0 d02_1 d0x0_0 d0x3_0 d0x3_1 d0x3_2 d0x3_3 d0x3_4 d0x3_5 d0x3_6 d0x3_7 d0x3_8 d0x3_9 d0x3_10
  have b := Tgz.out
  have L9 : Hid (x8.heap.size ≤ x9.heap.size) := b.size
  have B9 : Hid (Below w.heap.size w x9) := B8.out.trans (b.mono B8.out.size)
  have KA0_9 : Hid (Blk x9 ga0 46 [.slice S0.secret.a S0.secret.n S0.secret.c]) := KA0_8.out.later b
  have KA2_9 : Hid (Blk x9 ga2 47 [.int .i64 ah2, .int .i64 ap2]) := KA2_8.out.later b
  have KA3_9 : Hid (Blk x9 ga3 48 [.int .i64 D3.kind, .int .i64 D3.id, .slice S3.cn.a S3.cn.n S3.cn.c, .slice S3.sn.a S3.sn.n S3.sn.c, .int .i64 D3.tick, .slice S3.cookie.a S3.cookie.n S3.cookie.c, .slice S3.proof.a S3.proof.n S3.proof.c, .int .i64 D3.epoch, .int .i64 D3.seq, .slice S3.body.a S3.body.n S3.body.c, .slice S3.tag.a S3.tag.n S3.tag.c]) := KA3_8.out.later b
  have Ox0_9 : Hid (JaOwn x9 x4.heap.size x5.heap.size Sx0 D0) := Ox0_8.out.later b
  have Kx0_9 : Hid (Blk x9 gx0 25 [.slice Sx0.secret.a Sx0.secret.n Sx0.secret.c]) := Kx0_8.out.later b
  have Ox3_9 : Hid (FrOwn x9 x6.heap.size x7.heap.size Sx3 D3) := Ox3_8.out.later b
  have Kx3_9 : Hid (Blk x9 gx3 35 [.int .i64 D3.kind, .int .i64 D3.id, .slice Sx3.cn.a Sx3.cn.n Sx3.cn.c, .slice Sx3.sn.a Sx3.sn.n Sx3.sn.c, .int .i64 D3.tick, .slice Sx3.cookie.a Sx3.cookie.n Sx3.cookie.c, .slice Sx3.proof.a Sx3.proof.n Sx3.proof.c, .int .i64 D3.epoch, .int .i64 D3.seq, .slice Sx3.body.a Sx3.body.n Sx3.body.c, .slice Sx3.tag.a Sx3.tag.n Sx3.tag.c]) := Kx3_8.out.later b
  clear b B8 KA0_8 KA2_8 KA3_8 Ox0_8 Kx0_8 Ox3_8 Kx3_8
  clear BX TD
  go_upto_region 12 with fail
  go_upto_region 14 with fail
  go_cut [49] from 45 to 48 (fun sv wx => sv = .bool false ∧ Below x9.heap.size x9 wx)
  case first =>
    rename_i J K' hRJ hMet
    generalize hA : Act.mk _ _ = A
    have a4' : A.eval (.tmp 4) = .pointer (some ⟨ga0, 0, none⟩) := by rw [← hA]; rfl
    have a11' : A.eval (.tmp 11) = .pointer (some ⟨gx0, 0, none⟩) := by rw [← hA]; rfl
    have asz : A.tmps.size = 55 := by rw [← hA]; rfl
    have hKA : ∀ wx, Below x9.heap.size x9 wx → Blk wx ga0 46 [.slice S0.secret.a S0.secret.n S0.secret.c] := fun wx hb => KA0_9.out.later hb
    have hKB : ∀ wx, Below x9.heap.size x9 wx → Blk wx gx0 25 [.slice Sx0.secret.a Sx0.secret.n Sx0.secret.c] := fun wx hb => Kx0_9.out.later hb
    have hRS : ∀ wx, Below x9.heap.size x9 wx → JaRd wx S0 D0 := fun wx hb => HR0.out.later (B9.out.trans (hb.mono B9.out.size))
    have hRT : ∀ wx, Below x9.heap.size x9 wx → JaRd wx Sx0 D0 := fun wx hb => (Ox0_9.out.later hb).rd
    refine region_each (by kernel_rfl) [45, 46, 47, 48] 4 (fun i => [45, 46, 47, 48].getD i 0) (fun _ => 0)
      (fun i gB v wx => match i with
        | 0 => v = .agg #[.slice Sx0.secret.a Sx0.secret.n Sx0.secret.c]
        | 1 => v = .agg #[.slice S0.secret.a S0.secret.n S0.secret.c]
        | 2 => ∃ S3, v = jaV D0 S3 ∧ JaRd wx S3 D0
        | 3 => v = .bool true
        | _ => False) (fun wx => Below x9.heap.size x9 wx) (by kernel_rfl) (Below.refl _ _).drew ?_ ?_ ?_
    · intro i gB v wx wy hi hF hb _
      match i, hi with
      | 0, _ => exact hF
      | 1, _ => exact hF
      | 2, _ => obtain ⟨S3, h0, h1⟩ := hF; exact ⟨S3, h0, h1.later hb⟩
      | 3, _ => exact hF
    · intro i hi t ρ wx hB hp hd
      match i, hi with
      | 0, _ =>
        have e11 : (fr [45, 46, 47, 48] A t).eval (.tmp 11) = .pointer (some ⟨gx0, 0, none⟩) := (fr_eval_old _ _ _ 11 rfl).trans a11'
        have hc0 := (hKB wx hB).cell 0 rfl
        refine op_run (v := .agg #[.slice Sx0.secret.a Sx0.secret.n Sx0.secret.c]) (w' := wx) rfl rfl ?_ ?_
        · clear hp hd; have ec : ∀ v, (fr [45, 46, 47, 48] A t).eval (.const v) = v := fun _ => rfl; generalize (fr [45, 46, 47, 48] A t).eval = ev at ec e11 ⊢; go_simp
        · exact ⟨_, 0, rfl, hB, Below.refl _ _, rfl, .inl rfl⟩
      | 1, _ =>
        have e4 : (fr [45, 46, 47, 48] A t).eval (.tmp 4) = .pointer (some ⟨ga0, 0, none⟩) := (fr_eval_old _ _ _ 4 rfl).trans a4'
        have hc0 := (hKA wx hB).cell 0 rfl
        refine op_run (v := .agg #[.slice S0.secret.a S0.secret.n S0.secret.c]) (w' := wx) rfl rfl ?_ ?_
        · clear hp hd; have ec : ∀ v, (fr [45, 46, 47, 48] A t).eval (.const v) = v := fun _ => rfl; generalize (fr [45, 46, 47, 48] A t).eval = ev at ec e4 ⊢; go_simp
        · exact ⟨_, 0, rfl, hB, Below.refl _ _, rfl, .inl rfl⟩
      | 2, _ =>
        have e46 : (fr [45, 46, 47, 48] A t).eval (.tmp 46) = .agg #[.slice S0.secret.a S0.secret.n S0.secret.c] := (fr_eval _ _ _ 46 rfl (by rw [asz]; decide)).trans (hp 1 (pre_mem (by kernel_rfl)))
        refine op_call (f := 25) (args := #[.agg #[.slice S0.secret.a S0.secret.n S0.secret.c]]) rfl rfl ?_ (toJar S0 D0 wx (hRS wx hB) HLL0.out) ?_
        · have ef : (fr [45, 46, 47, 48] A t).eval (.func 25) = .func (.func 25) #[] #[] := rfl; clear hp hd; have ec : ∀ v, (fr [45, 46, 47, 48] A t).eval (.const v) = v := fun _ => rfl; generalize (fr [45, 46, 47, 48] A t).eval = ev at ec e46 ef ⊢; go_simp
        · rintro e wy ⟨S3, rfl, o3, b1⟩
          exact ⟨_, rfl, _, wx.heap.size, rfl, hB.trans (b1.mono hB.size), b1, ⟨S3, rfl, o3.rd⟩, .inl rfl⟩
      | 3, _ =>
        have e45 : (fr [45, 46, 47, 48] A t).eval (.tmp 45) = .agg #[.slice Sx0.secret.a Sx0.secret.n Sx0.secret.c] := (fr_eval _ _ _ 45 rfl (by rw [asz]; decide)).trans (hp 0 (pre_mem (by kernel_rfl)))
        obtain ⟨S32, hv2, q2_0⟩ := hp 2 (pre_mem (by kernel_rfl))
        have e47 : (fr [45, 46, 47, 48] A t).eval (.tmp 47) = jaV D0 S32 := (fr_eval _ _ _ 47 rfl (by rw [asz]; decide)).trans hv2
        refine op_call (f := 28) (args := #[.agg #[.slice Sx0.secret.a Sx0.secret.n Sx0.secret.c], jaV D0 S32]) rfl rfl ?_ (eqJar Sx0 S32 D0 wx (hRT wx hB) q2_0 HLL0.out) ?_
        · have ef : (fr [45, 46, 47, 48] A t).eval (.func 28) = .func (.func 28) #[] #[] := rfl; clear hp hd q2_0; have ec : ∀ v, (fr [45, 46, 47, 48] A t).eval (.const v) = v := fun _ => rfl; generalize (fr [45, 46, 47, 48] A t).eval = ev at ec e45 e47 ef ⊢; go_simp
        · rintro e wy ⟨rfl, b1⟩
          exact ⟨_, rfl, _, wx.heap.size, rfl, hB.trans (b1.mono hB.size), b1, rfl, .inl rfl⟩
    · intro t ρ wx hB hF hne
      have hv3 := hF 3 (by decide)
      have e48 : (fr [45, 46, 47, 48] A t).eval (.tmp 48) = .bool true := (fr_eval _ _ _ 48 rfl (by rw [asz]; decide)).trans hv3
      clear hne
      refine op_wp rfl rfl ?_
      generalize hE : (fr [45, 46, 47, 48] A t).eval = ev at e48
      unfold Oper.wp
      rw [hE]
      clear hv3
      go_simp
      refine hMet _ _ (Met.intro (hRJ _ _ ⟨t 45, t 46, t 47, t 48, _, ⟨rfl, hB⟩, ?_⟩))
      rw [← hA]; rfl
  case rest =>
  obtain ⟨x10, hq10⟩ : ∃ x10, x10 = wc := ⟨_, rfl⟩
  subst hq10
  obtain ⟨rfl, b10⟩ := hcut
  have L10 : Hid (x9.heap.size ≤ x10.heap.size) := b10.size
  have B10 : Hid (Below w.heap.size w x10) := B9.out.trans (b10.mono B9.out.size)
  have KA0_10 : Hid (Blk x10 ga0 46 [.slice S0.secret.a S0.secret.n S0.secret.c]) := KA0_9.out.later b10
  have KA2_10 : Hid (Blk x10 ga2 47 [.int .i64 ah2, .int .i64 ap2]) := KA2_9.out.later b10
  have KA3_10 : Hid (Blk x10 ga3 48 [.int .i64 D3.kind, .int .i64 D3.id, .slice S3.cn.a S3.cn.n S3.cn.c, .slice S3.sn.a S3.sn.n S3.sn.c, .int .i64 D3.tick, .slice S3.cookie.a S3.cookie.n S3.cookie.c, .slice S3.proof.a S3.proof.n S3.proof.c, .int .i64 D3.epoch, .int .i64 D3.seq, .slice S3.body.a S3.body.n S3.body.c, .slice S3.tag.a S3.tag.n S3.tag.c]) := KA3_9.out.later b10
  have Ox0_10 : Hid (JaOwn x10 x4.heap.size x5.heap.size Sx0 D0) := Ox0_9.out.later b10
  have Kx0_10 : Hid (Blk x10 gx0 25 [.slice Sx0.secret.a Sx0.secret.n Sx0.secret.c]) := Kx0_9.out.later b10
  have Ox3_10 : Hid (FrOwn x10 x6.heap.size x7.heap.size Sx3 D3) := Ox3_9.out.later b10
  have Kx3_10 : Hid (Blk x10 gx3 35 [.int .i64 D3.kind, .int .i64 D3.id, .slice Sx3.cn.a Sx3.cn.n Sx3.cn.c, .slice Sx3.sn.a Sx3.sn.n Sx3.sn.c, .int .i64 D3.tick, .slice Sx3.cookie.a Sx3.cookie.n Sx3.cookie.c, .slice Sx3.proof.a Sx3.proof.n Sx3.proof.c, .int .i64 D3.epoch, .int .i64 D3.seq, .slice Sx3.body.a Sx3.body.n Sx3.body.c, .slice Sx3.tag.a Sx3.tag.n Sx3.tag.c]) := Kx3_9.out.later b10
  clear b10 B9 KA0_9 KA2_9 KA3_9 Ox0_9 Kx0_9 Ox3_9 Kx3_9
  go_upto_region 16 with fail
  go_cut [54] from 50 to 53 (fun sv wx => sv = .bool false ∧ Below x10.heap.size x10 wx)
  case first =>
    rename_i J K' hRJ hMet
    generalize hA : Act.mk _ _ = A
    have a7' : A.eval (.tmp 7) = .pointer (some ⟨ga3, 0, none⟩) := by rw [← hA]; rfl
    have a12' : A.eval (.tmp 12) = .pointer (some ⟨gx3, 0, none⟩) := by rw [← hA]; rfl
    have asz : A.tmps.size = 55 := by rw [← hA]; rfl
    have hKA : ∀ wx, Below x10.heap.size x10 wx → Blk wx ga3 48 [.int .i64 D3.kind, .int .i64 D3.id, .slice S3.cn.a S3.cn.n S3.cn.c, .slice S3.sn.a S3.sn.n S3.sn.c, .int .i64 D3.tick, .slice S3.cookie.a S3.cookie.n S3.cookie.c, .slice S3.proof.a S3.proof.n S3.proof.c, .int .i64 D3.epoch, .int .i64 D3.seq, .slice S3.body.a S3.body.n S3.body.c, .slice S3.tag.a S3.tag.n S3.tag.c] := fun wx hb => KA3_10.out.later hb
    have hKB : ∀ wx, Below x10.heap.size x10 wx → Blk wx gx3 35 [.int .i64 D3.kind, .int .i64 D3.id, .slice Sx3.cn.a Sx3.cn.n Sx3.cn.c, .slice Sx3.sn.a Sx3.sn.n Sx3.sn.c, .int .i64 D3.tick, .slice Sx3.cookie.a Sx3.cookie.n Sx3.cookie.c, .slice Sx3.proof.a Sx3.proof.n Sx3.proof.c, .int .i64 D3.epoch, .int .i64 D3.seq, .slice Sx3.body.a Sx3.body.n Sx3.body.c, .slice Sx3.tag.a Sx3.tag.n Sx3.tag.c] := fun wx hb => Kx3_10.out.later hb
    have hRS : ∀ wx, Below x10.heap.size x10 wx → FrRd wx S3 D3 := fun wx hb => HR3.out.later (B10.out.trans (hb.mono B10.out.size))
    have hRT : ∀ wx, Below x10.heap.size x10 wx → FrRd wx Sx3 D3 := fun wx hb => (Ox3_10.out.later hb).rd
    refine region_each (by kernel_rfl) [50, 51, 52, 53] 4 (fun i => [50, 51, 52, 53].getD i 0) (fun _ => 0)
      (fun i gB v wx => match i with
        | 0 => v = .agg #[.int .i64 D3.kind, .int .i64 D3.id, .slice Sx3.cn.a Sx3.cn.n Sx3.cn.c, .slice Sx3.sn.a Sx3.sn.n Sx3.sn.c, .int .i64 D3.tick, .slice Sx3.cookie.a Sx3.cookie.n Sx3.cookie.c, .slice Sx3.proof.a Sx3.proof.n Sx3.proof.c, .int .i64 D3.epoch, .int .i64 D3.seq, .slice Sx3.body.a Sx3.body.n Sx3.body.c, .slice Sx3.tag.a Sx3.tag.n Sx3.tag.c]
        | 1 => v = .agg #[.int .i64 D3.kind, .int .i64 D3.id, .slice S3.cn.a S3.cn.n S3.cn.c, .slice S3.sn.a S3.sn.n S3.sn.c, .int .i64 D3.tick, .slice S3.cookie.a S3.cookie.n S3.cookie.c, .slice S3.proof.a S3.proof.n S3.proof.c, .int .i64 D3.epoch, .int .i64 D3.seq, .slice S3.body.a S3.body.n S3.body.c, .slice S3.tag.a S3.tag.n S3.tag.c]
        | 2 => ∃ S3, v = frV D3 S3 ∧ FrRd wx S3 D3
        | 3 => v = .bool true
        | _ => False) (fun wx => Below x10.heap.size x10 wx) (by kernel_rfl) (Below.refl _ _).drew ?_ ?_ ?_
    · intro i gB v wx wy hi hF hb _
      match i, hi with
      | 0, _ => exact hF
      | 1, _ => exact hF
      | 2, _ => obtain ⟨S3, h0, h1⟩ := hF; exact ⟨S3, h0, h1.later hb⟩
      | 3, _ => exact hF
    · intro i hi t ρ wx hB hp hd
      match i, hi with
      | 0, _ =>
        have e12 : (fr [50, 51, 52, 53] A t).eval (.tmp 12) = .pointer (some ⟨gx3, 0, none⟩) := (fr_eval_old _ _ _ 12 rfl).trans a12'
        have hc0 := (hKB wx hB).cell 0 rfl
        have hc1 := (hKB wx hB).cell 1 rfl
        have hc2 := (hKB wx hB).cell 2 rfl
        have hc3 := (hKB wx hB).cell 3 rfl
        have hc4 := (hKB wx hB).cell 4 rfl
        have hc5 := (hKB wx hB).cell 5 rfl
        have hc6 := (hKB wx hB).cell 6 rfl
        have hc7 := (hKB wx hB).cell 7 rfl
        have hc8 := (hKB wx hB).cell 8 rfl
        have hc9 := (hKB wx hB).cell 9 rfl
        have hc10 := (hKB wx hB).cell 10 rfl
        refine op_run (v := .agg #[.int .i64 D3.kind, .int .i64 D3.id, .slice Sx3.cn.a Sx3.cn.n Sx3.cn.c, .slice Sx3.sn.a Sx3.sn.n Sx3.sn.c, .int .i64 D3.tick, .slice Sx3.cookie.a Sx3.cookie.n Sx3.cookie.c, .slice Sx3.proof.a Sx3.proof.n Sx3.proof.c, .int .i64 D3.epoch, .int .i64 D3.seq, .slice Sx3.body.a Sx3.body.n Sx3.body.c, .slice Sx3.tag.a Sx3.tag.n Sx3.tag.c]) (w' := wx) rfl rfl ?_ ?_
        · clear hp hd; have ec : ∀ v, (fr [50, 51, 52, 53] A t).eval (.const v) = v := fun _ => rfl; generalize (fr [50, 51, 52, 53] A t).eval = ev at ec e12 ⊢; go_simp
        · exact ⟨_, 0, rfl, hB, Below.refl _ _, rfl, .inl rfl⟩
      | 1, _ =>
        have e7 : (fr [50, 51, 52, 53] A t).eval (.tmp 7) = .pointer (some ⟨ga3, 0, none⟩) := (fr_eval_old _ _ _ 7 rfl).trans a7'
        have hc0 := (hKA wx hB).cell 0 rfl
        have hc1 := (hKA wx hB).cell 1 rfl
        have hc2 := (hKA wx hB).cell 2 rfl
        have hc3 := (hKA wx hB).cell 3 rfl
        have hc4 := (hKA wx hB).cell 4 rfl
        have hc5 := (hKA wx hB).cell 5 rfl
        have hc6 := (hKA wx hB).cell 6 rfl
        have hc7 := (hKA wx hB).cell 7 rfl
        have hc8 := (hKA wx hB).cell 8 rfl
        have hc9 := (hKA wx hB).cell 9 rfl
        have hc10 := (hKA wx hB).cell 10 rfl
        refine op_run (v := .agg #[.int .i64 D3.kind, .int .i64 D3.id, .slice S3.cn.a S3.cn.n S3.cn.c, .slice S3.sn.a S3.sn.n S3.sn.c, .int .i64 D3.tick, .slice S3.cookie.a S3.cookie.n S3.cookie.c, .slice S3.proof.a S3.proof.n S3.proof.c, .int .i64 D3.epoch, .int .i64 D3.seq, .slice S3.body.a S3.body.n S3.body.c, .slice S3.tag.a S3.tag.n S3.tag.c]) (w' := wx) rfl rfl ?_ ?_
        · clear hp hd; have ec : ∀ v, (fr [50, 51, 52, 53] A t).eval (.const v) = v := fun _ => rfl; generalize (fr [50, 51, 52, 53] A t).eval = ev at ec e7 ⊢; go_simp
        · exact ⟨_, 0, rfl, hB, Below.refl _ _, rfl, .inl rfl⟩
      | 2, _ =>
        have e51 : (fr [50, 51, 52, 53] A t).eval (.tmp 51) = .agg #[.int .i64 D3.kind, .int .i64 D3.id, .slice S3.cn.a S3.cn.n S3.cn.c, .slice S3.sn.a S3.sn.n S3.sn.c, .int .i64 D3.tick, .slice S3.cookie.a S3.cookie.n S3.cookie.c, .slice S3.proof.a S3.proof.n S3.proof.c, .int .i64 D3.epoch, .int .i64 D3.seq, .slice S3.body.a S3.body.n S3.body.c, .slice S3.tag.a S3.tag.n S3.tag.c] := (fr_eval _ _ _ 51 rfl (by rw [asz]; decide)).trans (hp 1 (pre_mem (by kernel_rfl)))
        refine op_call (f := 27) (args := #[.agg #[.int .i64 D3.kind, .int .i64 D3.id, .slice S3.cn.a S3.cn.n S3.cn.c, .slice S3.sn.a S3.sn.n S3.sn.c, .int .i64 D3.tick, .slice S3.cookie.a S3.cookie.n S3.cookie.c, .slice S3.proof.a S3.proof.n S3.proof.c, .int .i64 D3.epoch, .int .i64 D3.seq, .slice S3.body.a S3.body.n S3.body.c, .slice S3.tag.a S3.tag.n S3.tag.c]]) rfl rfl ?_ (toFrame S3 D3 wx (hRS wx hB) HLL3.out) ?_
        · have ef : (fr [50, 51, 52, 53] A t).eval (.func 27) = .func (.func 27) #[] #[] := rfl; clear hp hd; have ec : ∀ v, (fr [50, 51, 52, 53] A t).eval (.const v) = v := fun _ => rfl; generalize (fr [50, 51, 52, 53] A t).eval = ev at ec e51 ef ⊢; go_simp
        · rintro e wy ⟨S3, rfl, o3, b1⟩
          exact ⟨_, rfl, _, wx.heap.size, rfl, hB.trans (b1.mono hB.size), b1, ⟨S3, rfl, o3.rd⟩, .inl rfl⟩
      | 3, _ =>
        have e50 : (fr [50, 51, 52, 53] A t).eval (.tmp 50) = .agg #[.int .i64 D3.kind, .int .i64 D3.id, .slice Sx3.cn.a Sx3.cn.n Sx3.cn.c, .slice Sx3.sn.a Sx3.sn.n Sx3.sn.c, .int .i64 D3.tick, .slice Sx3.cookie.a Sx3.cookie.n Sx3.cookie.c, .slice Sx3.proof.a Sx3.proof.n Sx3.proof.c, .int .i64 D3.epoch, .int .i64 D3.seq, .slice Sx3.body.a Sx3.body.n Sx3.body.c, .slice Sx3.tag.a Sx3.tag.n Sx3.tag.c] := (fr_eval _ _ _ 50 rfl (by rw [asz]; decide)).trans (hp 0 (pre_mem (by kernel_rfl)))
        obtain ⟨S32, hv2, q2_0⟩ := hp 2 (pre_mem (by kernel_rfl))
        have e52 : (fr [50, 51, 52, 53] A t).eval (.tmp 52) = frV D3 S32 := (fr_eval _ _ _ 52 rfl (by rw [asz]; decide)).trans hv2
        refine op_call (f := 29) (args := #[.agg #[.int .i64 D3.kind, .int .i64 D3.id, .slice Sx3.cn.a Sx3.cn.n Sx3.cn.c, .slice Sx3.sn.a Sx3.sn.n Sx3.sn.c, .int .i64 D3.tick, .slice Sx3.cookie.a Sx3.cookie.n Sx3.cookie.c, .slice Sx3.proof.a Sx3.proof.n Sx3.proof.c, .int .i64 D3.epoch, .int .i64 D3.seq, .slice Sx3.body.a Sx3.body.n Sx3.body.c, .slice Sx3.tag.a Sx3.tag.n Sx3.tag.c], frV D3 S32]) rfl rfl ?_ (eqFrame Sx3 S32 D3 wx (hRT wx hB) q2_0 HLL3.out) ?_
        · have ef : (fr [50, 51, 52, 53] A t).eval (.func 29) = .func (.func 29) #[] #[] := rfl; clear hp hd q2_0; have ec : ∀ v, (fr [50, 51, 52, 53] A t).eval (.const v) = v := fun _ => rfl; generalize (fr [50, 51, 52, 53] A t).eval = ev at ec e50 e52 ef ⊢; go_simp
        · rintro e wy ⟨rfl, b1⟩
          exact ⟨_, rfl, _, wx.heap.size, rfl, hB.trans (b1.mono hB.size), b1, rfl, .inl rfl⟩
    · intro t ρ wx hB hF hne
      have hv3 := hF 3 (by decide)
      have e53 : (fr [50, 51, 52, 53] A t).eval (.tmp 53) = .bool true := (fr_eval _ _ _ 53 rfl (by rw [asz]; decide)).trans hv3
      clear hne
      refine op_wp rfl rfl ?_
      generalize hE : (fr [50, 51, 52, 53] A t).eval = ev at e53
      unfold Oper.wp
      rw [hE]
      clear hv3
      go_simp
      refine hMet _ _ (Met.intro (hRJ _ _ ⟨t 50, t 51, t 52, t 53, _, ⟨rfl, hB⟩, ?_⟩))
      rw [← hA]; rfl
  case rest =>
  obtain ⟨x11, hq11⟩ : ∃ x11, x11 = wc := ⟨_, rfl⟩
  subst hq11
  obtain ⟨rfl, b11⟩ := hcut
  have L11 : Hid (x10.heap.size ≤ x11.heap.size) := b11.size
  have B11 : Hid (Below w.heap.size w x11) := B10.out.trans (b11.mono B10.out.size)
  have KA0_11 : Hid (Blk x11 ga0 46 [.slice S0.secret.a S0.secret.n S0.secret.c]) := KA0_10.out.later b11
  have KA2_11 : Hid (Blk x11 ga2 47 [.int .i64 ah2, .int .i64 ap2]) := KA2_10.out.later b11
  have KA3_11 : Hid (Blk x11 ga3 48 [.int .i64 D3.kind, .int .i64 D3.id, .slice S3.cn.a S3.cn.n S3.cn.c, .slice S3.sn.a S3.sn.n S3.sn.c, .int .i64 D3.tick, .slice S3.cookie.a S3.cookie.n S3.cookie.c, .slice S3.proof.a S3.proof.n S3.proof.c, .int .i64 D3.epoch, .int .i64 D3.seq, .slice S3.body.a S3.body.n S3.body.c, .slice S3.tag.a S3.tag.n S3.tag.c]) := KA3_10.out.later b11
  have Ox0_11 : Hid (JaOwn x11 x4.heap.size x5.heap.size Sx0 D0) := Ox0_10.out.later b11
  have Kx0_11 : Hid (Blk x11 gx0 25 [.slice Sx0.secret.a Sx0.secret.n Sx0.secret.c]) := Kx0_10.out.later b11
  have Ox3_11 : Hid (FrOwn x11 x6.heap.size x7.heap.size Sx3 D3) := Ox3_10.out.later b11
  have Kx3_11 : Hid (Blk x11 gx3 35 [.int .i64 D3.kind, .int .i64 D3.id, .slice Sx3.cn.a Sx3.cn.n Sx3.cn.c, .slice Sx3.sn.a Sx3.sn.n Sx3.sn.c, .int .i64 D3.tick, .slice Sx3.cookie.a Sx3.cookie.n Sx3.cookie.c, .slice Sx3.proof.a Sx3.proof.n Sx3.proof.c, .int .i64 D3.epoch, .int .i64 D3.seq, .slice Sx3.body.a Sx3.body.n Sx3.body.c, .slice Sx3.tag.a Sx3.tag.n Sx3.tag.c]) := Kx3_10.out.later b11
  clear b11 B10 KA0_10 KA2_10 KA3_10 Ox0_10 Kx0_10 Ox3_10 Kx3_10
  go_wp2
  go_ret
  exact ⟨rfl, B11.out⟩
end Go.Proofs.YtpgapjdejelajaaGreatDoor.LawJudge
