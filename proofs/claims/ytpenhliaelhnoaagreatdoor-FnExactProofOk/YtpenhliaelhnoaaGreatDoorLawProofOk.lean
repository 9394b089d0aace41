/-
  The walk of the law FnExactProofOk: at every argument it answers true, and nothing that was there is written.
-/
import Derived.Test.YtpenhliaelhnoaaGreatDoorKeV
import Derived.Test.YtpenhliaelhnoaaGreatDoorKeU
import Derived.Test.YtpenhliaelhnoaaGreatDoorGz6
import Derived.Test.YtpenhliaelhnoaaGreatDoorGz7
import Derived.Test.YtpenhliaelhnoaaGreatDoorGz8
import Derived.Test.YtpenhliaelhnoaaGreatDoorGz16
import Derived.Deep.RegionHeld3
namespace Go.Proofs.YtpenhliaelhnoaaGreatDoor.LawProofOk
open Go.RowKit Go.Proofs.YtpenhliaelhnoaaGreatDoor.Mem Go.Proofs.YtpenhliaelhnoaaGreatDoor.Blk Go.Proofs.YtpenhliaelhnoaaGreatDoor.Zone Go.Proofs.YtpenhliaelhnoaaGreatDoor.ZoneB Go.Proofs.YtpenhliaelhnoaaGreatDoor.ZoneI Go.Proofs.YtpenhliaelhnoaaGreatDoor.MemI Go.Proofs.YtpenhliaelhnoaaGreatDoor.Each Go.Proofs.YtpenhliaelhnoaaGreatDoor.Copy Go.Proofs.YtpenhliaelhnoaaGreatDoor.Ops Go.Proofs.YtpenhliaelhnoaaGreatDoor.Shp Go.Proofs.YtpenhliaelhnoaaGreatDoor.App Go.Proofs.YtpenhliaelhnoaaGreatDoor.KeP Go.Proofs.YtpenhliaelhnoaaGreatDoor.KeQ Go.Proofs.YtpenhliaelhnoaaGreatDoor.Comp Go.Proofs.YtpenhliaelhnoaaGreatDoor.KeW Go.Proofs.YtpenhliaelhnoaaGreatDoor.FrZ Go.Proofs.YtpenhliaelhnoaaGreatDoor.FrL Go.Proofs.YtpenhliaelhnoaaGreatDoor.FrP Go.Proofs.YtpenhliaelhnoaaGreatDoor.FrG

set_option maxRecDepth 100000 in
set_option maxHeartbeats 8000000 in
theorem walk (s0 : Sl) (l0 : List Int) (D1 : FrD) (S1 : FrS) (w : World) (hT : Tab w) (h0 : SRd w s0 l0) (h1 : FrRd w S1 D1) (m1 : FrSmall S1) :
    Calls Tryz.prog 5 #[.slice s0.a s0.n s0.c, frV D1 S1] w fun e w' => e = .returned (.bool true) ∧ Below w.heap.size w w' := by
  obtain ⟨R0, hR0⟩ : ∃ R : Bool, pOk l0 D1 = R := ⟨_, rfl⟩
  have HRD0 : Hid (pOk l0 D1 = R0) := hR0
  clear hR0
  have hvv0 : (R0 != R0) = false := by simp
  have HT : Hid (Tab w) := hT
  clear hT
  have HR0 : Hid (SRd w s0 l0) := h0
  have HN0 : Hid (s0.n = l0.length) := h0.len
  have HR1 : Hid (FrRd w S1 D1) := h1
  have HM1 : Hid (FrSmall S1) := m1
  clear h0 h1 m1
  obtain ⟨x1, hx1⟩ : ∃ x1, w.alloc (.cells #[.int .i64 D1.kind, .int .i64 D1.id, .slice S1.cn.a S1.cn.n S1.cn.c, .slice S1.sn.a S1.sn.n S1.sn.c, .int .i64 D1.tick, .slice S1.cookie.a S1.cookie.n S1.cookie.c, .slice S1.proof.a S1.proof.n S1.proof.c, .int .i64 D1.epoch, .int .i64 D1.seq, .slice S1.body.a S1.body.n S1.body.c, .slice S1.tag.a S1.tag.n S1.tag.c] 37) = x1 := ⟨_, rfl⟩
  have HW0 : Hid (w.alloc (.cells #[.int .i64 D1.kind, .int .i64 D1.id, .slice S1.cn.a S1.cn.n S1.cn.c, .slice S1.sn.a S1.sn.n S1.sn.c, .int .i64 D1.tick, .slice S1.cookie.a S1.cookie.n S1.cookie.c, .slice S1.proof.a S1.proof.n S1.proof.c, .int .i64 D1.epoch, .int .i64 D1.seq, .slice S1.body.a S1.body.n S1.body.c, .slice S1.tag.a S1.tag.n S1.tag.c] 37) = x1) := hx1
  have b1 : Below w.heap.size w x1 := by rw [← hx1]; exact (Below.refl _ _).alloc (Nat.le_refl _) _
  have KN1 : Blk x1 (w.heap.size) 37 [.int .i64 D1.kind, .int .i64 D1.id, .slice S1.cn.a S1.cn.n S1.cn.c, .slice S1.sn.a S1.sn.n S1.sn.c, .int .i64 D1.tick, .slice S1.cookie.a S1.cookie.n S1.cookie.c, .slice S1.proof.a S1.proof.n S1.proof.c, .int .i64 D1.epoch, .int .i64 D1.seq, .slice S1.body.a S1.body.n S1.body.c, .slice S1.tag.a S1.tag.n S1.tag.c] := by
    have q := Blk.new (w) 37 [.int .i64 D1.kind, .int .i64 D1.id, .slice S1.cn.a S1.cn.n S1.cn.c, .slice S1.sn.a S1.sn.n S1.sn.c, .int .i64 D1.tick, .slice S1.cookie.a S1.cookie.n S1.cookie.c, .slice S1.proof.a S1.proof.n S1.proof.c, .int .i64 D1.epoch, .int .i64 D1.seq, .slice S1.body.a S1.body.n S1.body.c, .slice S1.tag.a S1.tag.n S1.tag.c]
    rw [← hx1]; exact q
  have SZ1 : x1.heap.size = w.heap.size + 1 := by rw [← hx1]; simp
  clear hx1
  have L1 : Hid (w.heap.size ≤ x1.heap.size) := b1.size
  have B1 : Hid (Below w.heap.size w x1) := b1
  clear b1
  unfold frV
  go_enter Tryz.func5, Tryz.ntmps5
  go_upto_region 1 with fail
  rw [HW0.out]
  obtain ⟨ga1, hga1⟩ : ∃ g, w.heap.size = g := ⟨_, rfl⟩
  have Gga : Hid (w.heap.size + 0 = ga1 ∧ x1.heap.size = w.heap.size + 1) := ⟨by omega, SZ1⟩
  rw [hga1] at KN1
  rw [hga1]
  clear HW0 SZ1 hga1
  have KA1_1 : Hid (Blk x1 ga1 37 [.int .i64 D1.kind, .int .i64 D1.id, .slice S1.cn.a S1.cn.n S1.cn.c, .slice S1.sn.a S1.sn.n S1.sn.c, .int .i64 D1.tick, .slice S1.cookie.a S1.cookie.n S1.cookie.c, .slice S1.proof.a S1.proof.n S1.proof.c, .int .i64 D1.epoch, .int .i64 D1.seq, .slice S1.body.a S1.body.n S1.body.c, .slice S1.tag.a S1.tag.n S1.tag.c]) := KN1
  clear KN1
  by_cases hbig0 : (s0.n : Int) > 1048576
  · go_wp2
    go_ret
    exact ⟨rfl, B1.out⟩
  have HL0 : Hid (l0.length ≤ 1048576) := by have := HN0.out; show _ ≤ _; omega
  have c0 := KA1_1.out.cell 0 rfl
  have c1 := KA1_1.out.cell 1 rfl
  have c2 := KA1_1.out.cell 2 rfl
  have c3 := KA1_1.out.cell 3 rfl
  have c4 := KA1_1.out.cell 4 rfl
  have c5 := KA1_1.out.cell 5 rfl
  have c6 := KA1_1.out.cell 6 rfl
  have c7 := KA1_1.out.cell 7 rfl
  have c8 := KA1_1.out.cell 8 rfl
  have c9 := KA1_1.out.cell 9 rfl
  have c10 := KA1_1.out.cell 10 rfl
  go_wp2_with fail
  refine (szFrame S1 D1 (1048576 : Int) x1 HM1.out (by omega) (by omega)).mono ?_
  rintro e x2 ⟨rfl, b2⟩
  clear c0 c1 c2 c3 c4 c5 c6 c7 c8 c9 c10
  have L2 : Hid (x1.heap.size ≤ x2.heap.size) := b2.size
  have B2 : Hid (Below w.heap.size w x2) := B1.out.trans (b2.mono B1.out.size)
  have KA1_2 : Hid (Blk x2 ga1 37 [.int .i64 D1.kind, .int .i64 D1.id, .slice S1.cn.a S1.cn.n S1.cn.c, .slice S1.sn.a S1.sn.n S1.sn.c, .int .i64 D1.tick, .slice S1.cookie.a S1.cookie.n S1.cookie.c, .slice S1.proof.a S1.proof.n S1.proof.c, .int .i64 D1.epoch, .int .i64 D1.seq, .slice S1.body.a S1.body.n S1.body.c, .slice S1.tag.a S1.tag.n S1.tag.c]) := KA1_1.out.later b2
  clear b2 B1 KA1_1
  by_cases hsum1 : (1048576 : Int) - (frSum S1 : Int) < 0
  · rw [if_pos hsum1]
    go_wp2
    go_ret
    exact ⟨rfl, B2.out⟩
  rw [if_neg hsum1]
  have HL1 : Hid (FrShort D1 1048576) := fr_short_of HR1.out (by omega)
  have HLL1 : Hid (FrShort D1 4194304) := fr_short_le HL1.out (by omega)
  have BX : Hid (Below w.heap.size w x2) := B2.out
  have TD : Hid (Below x2.heap.size x2 x2.drew) := (Below.refl _ _).drew
  have HLB0 : Hid (l0.length ≤ 4194304) := by have := HL0.out; show _ ≤ _; omega
  have dz1_0 := KA1_2.out.cell 0 rfl
  have dz1_1 := KA1_2.out.cell 1 rfl
  have dz1_2 := KA1_2.out.cell 2 rfl
  have dz1_3 := KA1_2.out.cell 3 rfl
  have dz1_4 := KA1_2.out.cell 4 rfl
  have dz1_5 := KA1_2.out.cell 5 rfl
  have dz1_6 := KA1_2.out.cell 6 rfl
  have dz1_7 := KA1_2.out.cell 7 rfl
  have dz1_8 := KA1_2.out.cell 8 rfl
  have dz1_9 := KA1_2.out.cell 9 rfl
  have dz1_10 := KA1_2.out.cell 10 rfl
  go_upto_region 7 with fail
  go_region_held3 (fun w' => w'.cell? ⟨ga1, 0, none⟩ = some (.int .i64 D1.kind) ∧ w'.cell? ⟨ga1, 1, none⟩ = some (.int .i64 D1.id) ∧ w'.cell? ⟨ga1, 2, none⟩ = some (.slice S1.cn.a S1.cn.n S1.cn.c) ∧ w'.cell? ⟨ga1, 3, none⟩ = some (.slice S1.sn.a S1.sn.n S1.sn.c) ∧ w'.cell? ⟨ga1, 4, none⟩ = some (.int .i64 D1.tick) ∧ w'.cell? ⟨ga1, 5, none⟩ = some (.slice S1.cookie.a S1.cookie.n S1.cookie.c) ∧ w'.cell? ⟨ga1, 6, none⟩ = some (.slice S1.proof.a S1.proof.n S1.proof.c) ∧ w'.cell? ⟨ga1, 7, none⟩ = some (.int .i64 D1.epoch) ∧ w'.cell? ⟨ga1, 8, none⟩ = some (.int .i64 D1.seq) ∧ w'.cell? ⟨ga1, 9, none⟩ = some (.slice S1.body.a S1.body.n S1.body.c) ∧ w'.cell? ⟨ga1, 10, none⟩ = some (.slice S1.tag.a S1.tag.n S1.tag.c)) (first | exact ⟨dw1_0, dw1_1, dw1_2, dw1_3, dw1_4, dw1_5, dw1_6, dw1_7, dw1_8, dw1_9, dw1_10⟩ | exact ⟨d11_0, d11_1, d11_2, d11_3, d11_4, d11_5, d11_6, d11_7, d11_8, d11_9, d11_10⟩ | exact ⟨d01_0, d01_1, d01_2, d01_3, d01_4, d01_5, d01_6, d01_7, d01_8, d01_9, d01_10⟩ | exact ⟨dz1_0, dz1_1, dz1_2, dz1_3, dz1_4, dz1_5, dz1_6, dz1_7, dz1_8, dz1_9, dz1_10⟩ | go_keep)
   (first
    | (go_at_call 13; refine (KeU.specProofOk ⟨some ⟨x2.drew.heap.size, 0, none⟩, s0.n, s0.n⟩ l0 Sw1 D1 yw1 Ow0_p.out.rd Ow1_.out.rd).mono ?_; rw [HRD0.out]; rintro e x3 ⟨rfl, b⟩; have Twz : Hid (Below x2.heap.size x2 x3) := (Tw1.out).trans (b.mono (Tw1.out).size); have Lwz : Hid (x2.heap.size ≤ yw1.heap.size) := (Tw1.out).size; have dw1_0 := (KA1_2.out.later Twz.out).cell 0 rfl; have dw1_1 := (KA1_2.out.later Twz.out).cell 1 rfl; have dw1_2 := (KA1_2.out.later Twz.out).cell 2 rfl; have dw1_3 := (KA1_2.out.later Twz.out).cell 3 rfl; have dw1_4 := (KA1_2.out.later Twz.out).cell 4 rfl; have dw1_5 := (KA1_2.out.later Twz.out).cell 5 rfl; have dw1_6 := (KA1_2.out.later Twz.out).cell 6 rfl; have dw1_7 := (KA1_2.out.later Twz.out).cell 7 rfl; have dw1_8 := (KA1_2.out.later Twz.out).cell 8 rfl; have dw1_9 := (KA1_2.out.later Twz.out).cell 9 rfl; have dw1_10 := (KA1_2.out.later Twz.out).cell 10 rfl; clear b)
    | (go_at_call 19; refine (toFrame S1 D1 yw0 (HR1.out.later (BX.out.trans (Tw0.out.mono BX.out.size))) HLL1.out).mono ?_; rintro e yw1 ⟨Sw1, rfl, o, b⟩; have Ow1_ : Hid (FrOwn yw1 yw0.heap.size yw1.heap.size Sw1 D1) := o; have Tw1 : Hid (Below x2.heap.size x2 yw1) := (Tw0.out).trans (b.mono (Tw0.out).size); have Ow0_p : Hid (SOwn yw1 x2.drew.heap.size yw0.heap.size ⟨some ⟨x2.drew.heap.size, 0, none⟩, s0.n, s0.n⟩ l0) := Ow0_.out.later b; have d11_0 := (KA1_2.out.later Tw1.out).cell 0 rfl; have d11_1 := (KA1_2.out.later Tw1.out).cell 1 rfl; have d11_2 := (KA1_2.out.later Tw1.out).cell 2 rfl; have d11_3 := (KA1_2.out.later Tw1.out).cell 3 rfl; have d11_4 := (KA1_2.out.later Tw1.out).cell 4 rfl; have d11_5 := (KA1_2.out.later Tw1.out).cell 5 rfl; have d11_6 := (KA1_2.out.later Tw1.out).cell 6 rfl; have d11_7 := (KA1_2.out.later Tw1.out).cell 7 rfl; have d11_8 := (KA1_2.out.later Tw1.out).cell 8 rfl; have d11_9 := (KA1_2.out.later Tw1.out).cell 9 rfl; have d11_10 := (KA1_2.out.later Tw1.out).cell 10 rfl; clear o b)
    | (go_at_call 18; refine (toB s0 l0 x2.drew (HR0.out.later (BX.out.trans (TD.out.mono BX.out.size))) HLB0.out).mono ?_; rintro e yw0 ⟨rfl, o, b⟩; have Ow0_ : Hid (SOwn yw0 x2.drew.heap.size yw0.heap.size ⟨some ⟨x2.drew.heap.size, 0, none⟩, s0.n, s0.n⟩ l0) := o; have Tw0 : Hid (Below x2.heap.size x2 yw0) := (TD.out).trans (b.mono (TD.out).size); have d01_0 := (KA1_2.out.later Tw0.out).cell 0 rfl; have d01_1 := (KA1_2.out.later Tw0.out).cell 1 rfl; have d01_2 := (KA1_2.out.later Tw0.out).cell 2 rfl; have d01_3 := (KA1_2.out.later Tw0.out).cell 3 rfl; have d01_4 := (KA1_2.out.later Tw0.out).cell 4 rfl; have d01_5 := (KA1_2.out.later Tw0.out).cell 5 rfl; have d01_6 := (KA1_2.out.later Tw0.out).cell 6 rfl; have d01_7 := (KA1_2.out.later Tw0.out).cell 7 rfl; have d01_8 := (KA1_2.out.later Tw0.out).cell 8 rfl; have d01_9 := (KA1_2.out.later Tw0.out).cell 9 rfl; have d01_10 := (KA1_2.out.later Tw0.out).cell 10 rfl; clear o b))
  clear dz1_0 dz1_1 dz1_2 dz1_3 dz1_4 dz1_5 dz1_6 dz1_7 dz1_8 dz1_9 dz1_10 dw1_0 dw1_1 dw1_2 dw1_3 dw1_4 dw1_5 dw1_6 dw1_7 dw1_8 dw1_9 dw1_10 d01_0 d01_1 d01_2 d01_3 d01_4 d01_5 d01_6 d01_7 d01_8 d01_9 d01_10 d11_0 d11_1 d11_2 d11_3 d11_4 d11_5 d11_6 d11_7 d11_8 d11_9 d11_10
  have b := Twz.out
  have L3 : Hid (x2.heap.size ≤ x3.heap.size) := b.size
  have B3 : Hid (Below w.heap.size w x3) := B2.out.trans (b.mono B2.out.size)
  have KA1_3 : Hid (Blk x3 ga1 37 [.int .i64 D1.kind, .int .i64 D1.id, .slice S1.cn.a S1.cn.n S1.cn.c, .slice S1.sn.a S1.sn.n S1.sn.c, .int .i64 D1.tick, .slice S1.cookie.a S1.cookie.n S1.cookie.c, .slice S1.proof.a S1.proof.n S1.proof.c, .int .i64 D1.epoch, .int .i64 D1.seq, .slice S1.body.a S1.body.n S1.body.c, .slice S1.tag.a S1.tag.n S1.tag.c]) := KA1_2.out.later b
  clear b B2 KA1_2
  clear BX TD HLB0
  go_upto_region 8 with fail
  go_wp2_with fail
  refine (toB s0 l0 x3 (HR0.out.later B3.out) (by have := HL0.out; omega)).mono ?_
  rintro e x4 ⟨rfl, o, b4⟩
  obtain ⟨qx0, hq⟩ : ∃ q, x3.heap.size = q := ⟨_, rfl⟩
  rw [hq] at o ⊢
  have L4 : Hid (x3.heap.size ≤ x4.heap.size) := b4.size
  have B4 : Hid (Below w.heap.size w x4) := B3.out.trans (b4.mono B3.out.size)
  have KA1_4 : Hid (Blk x4 ga1 37 [.int .i64 D1.kind, .int .i64 D1.id, .slice S1.cn.a S1.cn.n S1.cn.c, .slice S1.sn.a S1.sn.n S1.sn.c, .int .i64 D1.tick, .slice S1.cookie.a S1.cookie.n S1.cookie.c, .slice S1.proof.a S1.proof.n S1.proof.c, .int .i64 D1.epoch, .int .i64 D1.seq, .slice S1.body.a S1.body.n S1.body.c, .slice S1.tag.a S1.tag.n S1.tag.c]) := KA1_3.out.later b4
  clear b4 B3 KA1_3
  have Gqx0 : Hid (x3.heap.size = qx0) := hq
  have Ox0_4 : Hid (SOwn x4 qx0 x4.heap.size ⟨some ⟨qx0, 0, none⟩, s0.n, s0.n⟩ l0) := o
  clear o hq
  have c0 := KA1_4.out.cell 0 rfl
  have c1 := KA1_4.out.cell 1 rfl
  have c2 := KA1_4.out.cell 2 rfl
  have c3 := KA1_4.out.cell 3 rfl
  have c4 := KA1_4.out.cell 4 rfl
  have c5 := KA1_4.out.cell 5 rfl
  have c6 := KA1_4.out.cell 6 rfl
  have c7 := KA1_4.out.cell 7 rfl
  have c8 := KA1_4.out.cell 8 rfl
  have c9 := KA1_4.out.cell 9 rfl
  have c10 := KA1_4.out.cell 10 rfl
  go_wp2_with fail
  refine (toFrame S1 D1 x4 (HR1.out.later B4.out) HLL1.out).mono ?_
  rintro e x5 ⟨Sx1, rfl, o, b5⟩
  clear c0 c1 c2 c3 c4 c5 c6 c7 c8 c9 c10
  have L5 : Hid (x4.heap.size ≤ x5.heap.size) := b5.size
  have B5 : Hid (Below w.heap.size w x5) := B4.out.trans (b5.mono B4.out.size)
  have KA1_5 : Hid (Blk x5 ga1 37 [.int .i64 D1.kind, .int .i64 D1.id, .slice S1.cn.a S1.cn.n S1.cn.c, .slice S1.sn.a S1.sn.n S1.sn.c, .int .i64 D1.tick, .slice S1.cookie.a S1.cookie.n S1.cookie.c, .slice S1.proof.a S1.proof.n S1.proof.c, .int .i64 D1.epoch, .int .i64 D1.seq, .slice S1.body.a S1.body.n S1.body.c, .slice S1.tag.a S1.tag.n S1.tag.c]) := KA1_4.out.later b5
  have Ox0_5 : Hid (SOwn x5 qx0 x4.heap.size ⟨some ⟨qx0, 0, none⟩, s0.n, s0.n⟩ l0) := Ox0_4.out.later b5
  clear b5 B4 KA1_4 Ox0_4
  have Ox1_5 : Hid (FrOwn x5 x4.heap.size x5.heap.size Sx1 D1) := o
  clear o
  obtain ⟨x6, hx6⟩ : ∃ x6, x5.alloc (.cells #[.int .i64 D1.kind, .int .i64 D1.id, .slice Sx1.cn.a Sx1.cn.n Sx1.cn.c, .slice Sx1.sn.a Sx1.sn.n Sx1.sn.c, .int .i64 D1.tick, .slice Sx1.cookie.a Sx1.cookie.n Sx1.cookie.c, .slice Sx1.proof.a Sx1.proof.n Sx1.proof.c, .int .i64 D1.epoch, .int .i64 D1.seq, .slice Sx1.body.a Sx1.body.n Sx1.body.c, .slice Sx1.tag.a Sx1.tag.n Sx1.tag.c] 25) = x6 := ⟨_, rfl⟩
  have HW6 : Hid (x5.alloc (.cells #[.int .i64 D1.kind, .int .i64 D1.id, .slice Sx1.cn.a Sx1.cn.n Sx1.cn.c, .slice Sx1.sn.a Sx1.sn.n Sx1.sn.c, .int .i64 D1.tick, .slice Sx1.cookie.a Sx1.cookie.n Sx1.cookie.c, .slice Sx1.proof.a Sx1.proof.n Sx1.proof.c, .int .i64 D1.epoch, .int .i64 D1.seq, .slice Sx1.body.a Sx1.body.n Sx1.body.c, .slice Sx1.tag.a Sx1.tag.n Sx1.tag.c] 25) = x6) := hx6
  have b6 : Below x5.heap.size x5 x6 := by rw [← hx6]; exact (Below.refl _ _).alloc (Nat.le_refl _) _
  have KN : Blk x6 x5.heap.size 25 [.int .i64 D1.kind, .int .i64 D1.id, .slice Sx1.cn.a Sx1.cn.n Sx1.cn.c, .slice Sx1.sn.a Sx1.sn.n Sx1.sn.c, .int .i64 D1.tick, .slice Sx1.cookie.a Sx1.cookie.n Sx1.cookie.c, .slice Sx1.proof.a Sx1.proof.n Sx1.proof.c, .int .i64 D1.epoch, .int .i64 D1.seq, .slice Sx1.body.a Sx1.body.n Sx1.body.c, .slice Sx1.tag.a Sx1.tag.n Sx1.tag.c] := by rw [← hx6]; exact Blk.new x5 _ _
  have HSZ6 : Hid (x6.heap.size = x5.heap.size + 1) := by rw [← hx6]; show _ = _; simp
  clear hx6
  have L6 : Hid (x5.heap.size ≤ x6.heap.size) := b6.size
  have B6 : Hid (Below w.heap.size w x6) := B5.out.trans (b6.mono B5.out.size)
  have KA1_6 : Hid (Blk x6 ga1 37 [.int .i64 D1.kind, .int .i64 D1.id, .slice S1.cn.a S1.cn.n S1.cn.c, .slice S1.sn.a S1.sn.n S1.sn.c, .int .i64 D1.tick, .slice S1.cookie.a S1.cookie.n S1.cookie.c, .slice S1.proof.a S1.proof.n S1.proof.c, .int .i64 D1.epoch, .int .i64 D1.seq, .slice S1.body.a S1.body.n S1.body.c, .slice S1.tag.a S1.tag.n S1.tag.c]) := KA1_5.out.later b6
  have Ox0_6 : Hid (SOwn x6 qx0 x4.heap.size ⟨some ⟨qx0, 0, none⟩, s0.n, s0.n⟩ l0) := Ox0_5.out.later b6
  have Ox1_6 : Hid (FrOwn x6 x4.heap.size x5.heap.size Sx1 D1) := Ox1_5.out.later b6
  clear b6 B5 KA1_5 Ox0_5 Ox1_5
  unfold frV
  go_upto_region 10 with fail
  rw [HW6.out]
  obtain ⟨gx1, hgx1⟩ : ∃ gx1, x5.heap.size = gx1 := ⟨_, rfl⟩
  have Ggx1 : Hid (x5.heap.size = gx1 ∧ x6.heap.size = gx1 + 1) := ⟨hgx1, by rw [← hgx1]; exact HSZ6.out⟩
  rw [hgx1] at KN ⊢
  clear HW6 HSZ6 hgx1
  have Kx1_6 : Hid (Blk x6 gx1 25 [.int .i64 D1.kind, .int .i64 D1.id, .slice Sx1.cn.a Sx1.cn.n Sx1.cn.c, .slice Sx1.sn.a Sx1.sn.n Sx1.sn.c, .int .i64 D1.tick, .slice Sx1.cookie.a Sx1.cookie.n Sx1.cookie.c, .slice Sx1.proof.a Sx1.proof.n Sx1.proof.c, .int .i64 D1.epoch, .int .i64 D1.seq, .slice Sx1.body.a Sx1.body.n Sx1.body.c, .slice Sx1.tag.a Sx1.tag.n Sx1.tag.c]) := KN
  clear KN
  have cx1_0 := Kx1_6.out.cell 0 rfl
  have cx1_1 := Kx1_6.out.cell 1 rfl
  have cx1_2 := Kx1_6.out.cell 2 rfl
  have cx1_3 := Kx1_6.out.cell 3 rfl
  have cx1_4 := Kx1_6.out.cell 4 rfl
  have cx1_5 := Kx1_6.out.cell 5 rfl
  have cx1_6 := Kx1_6.out.cell 6 rfl
  have cx1_7 := Kx1_6.out.cell 7 rfl
  have cx1_8 := Kx1_6.out.cell 8 rfl
  have cx1_9 := Kx1_6.out.cell 9 rfl
  have cx1_10 := Kx1_6.out.cell 10 rfl
  go_wp2_with fail
  refine (KeV.implProofOk ⟨some ⟨qx0, 0, none⟩, s0.n, s0.n⟩ l0 Sx1 D1 x6 (HT.out.later B6.out) Ox0_6.out.rd Ox1_6.out.rd).mono ?_
  rw [HRD0.out]
  rintro e x7 ⟨rfl, b⟩
  clear cx1_0 cx1_1 cx1_2 cx1_3 cx1_4 cx1_5 cx1_6 cx1_7 cx1_8 cx1_9 cx1_10
  have L7 : Hid (x6.heap.size ≤ x7.heap.size) := b.size
  have B7 : Hid (Below w.heap.size w x7) := B6.out.trans (b.mono B6.out.size)
  have KA1_7 : Hid (Blk x7 ga1 37 [.int .i64 D1.kind, .int .i64 D1.id, .slice S1.cn.a S1.cn.n S1.cn.c, .slice S1.sn.a S1.sn.n S1.sn.c, .int .i64 D1.tick, .slice S1.cookie.a S1.cookie.n S1.cookie.c, .slice S1.proof.a S1.proof.n S1.proof.c, .int .i64 D1.epoch, .int .i64 D1.seq, .slice S1.body.a S1.body.n S1.body.c, .slice S1.tag.a S1.tag.n S1.tag.c]) := KA1_6.out.later b
  have Ox0_7 : Hid (SOwn x7 qx0 x4.heap.size ⟨some ⟨qx0, 0, none⟩, s0.n, s0.n⟩ l0) := Ox0_6.out.later b
  have Ox1_7 : Hid (FrOwn x7 x4.heap.size x5.heap.size Sx1 D1) := Ox1_6.out.later b
  have Kx1_7 : Hid (Blk x7 gx1 25 [.int .i64 D1.kind, .int .i64 D1.id, .slice Sx1.cn.a Sx1.cn.n Sx1.cn.c, .slice Sx1.sn.a Sx1.sn.n Sx1.sn.c, .int .i64 D1.tick, .slice Sx1.cookie.a Sx1.cookie.n Sx1.cookie.c, .slice Sx1.proof.a Sx1.proof.n Sx1.proof.c, .int .i64 D1.epoch, .int .i64 D1.seq, .slice Sx1.body.a Sx1.body.n Sx1.body.c, .slice Sx1.tag.a Sx1.tag.n Sx1.tag.c]) := Kx1_6.out.later b
  clear b B6 KA1_6 Ox0_6 Ox1_6 Kx1_6
  go_upto_region 11 with fail
  go_wp2_with fail
  refine (toB s0 l0 x7 (HR0.out.later B7.out) (by have := HL0.out; omega)).mono ?_
  rintro e x8 ⟨rfl, o, b8⟩
  obtain ⟨qy0, hq⟩ : ∃ q, x7.heap.size = q := ⟨_, rfl⟩
  rw [hq] at o ⊢
  have L8 : Hid (x7.heap.size ≤ x8.heap.size) := b8.size
  have B8 : Hid (Below w.heap.size w x8) := B7.out.trans (b8.mono B7.out.size)
  have KA1_8 : Hid (Blk x8 ga1 37 [.int .i64 D1.kind, .int .i64 D1.id, .slice S1.cn.a S1.cn.n S1.cn.c, .slice S1.sn.a S1.sn.n S1.sn.c, .int .i64 D1.tick, .slice S1.cookie.a S1.cookie.n S1.cookie.c, .slice S1.proof.a S1.proof.n S1.proof.c, .int .i64 D1.epoch, .int .i64 D1.seq, .slice S1.body.a S1.body.n S1.body.c, .slice S1.tag.a S1.tag.n S1.tag.c]) := KA1_7.out.later b8
  have Ox0_8 : Hid (SOwn x8 qx0 x4.heap.size ⟨some ⟨qx0, 0, none⟩, s0.n, s0.n⟩ l0) := Ox0_7.out.later b8
  have Ox1_8 : Hid (FrOwn x8 x4.heap.size x5.heap.size Sx1 D1) := Ox1_7.out.later b8
  have Kx1_8 : Hid (Blk x8 gx1 25 [.int .i64 D1.kind, .int .i64 D1.id, .slice Sx1.cn.a Sx1.cn.n Sx1.cn.c, .slice Sx1.sn.a Sx1.sn.n Sx1.sn.c, .int .i64 D1.tick, .slice Sx1.cookie.a Sx1.cookie.n Sx1.cookie.c, .slice Sx1.proof.a Sx1.proof.n Sx1.proof.c, .int .i64 D1.epoch, .int .i64 D1.seq, .slice Sx1.body.a Sx1.body.n Sx1.body.c, .slice Sx1.tag.a Sx1.tag.n Sx1.tag.c]) := Kx1_7.out.later b8
  clear b8 B7 KA1_7 Ox0_7 Ox1_7 Kx1_7
  have Gqy0 : Hid (x7.heap.size = qy0) := hq
  have Oy0_8 : Hid (SOwn x8 qy0 x8.heap.size ⟨some ⟨qy0, 0, none⟩, s0.n, s0.n⟩ l0) := o
  clear o hq
  go_wp2_with fail
  refine (eqB ⟨some ⟨qx0, 0, none⟩, s0.n, s0.n⟩ ⟨some ⟨qy0, 0, none⟩, s0.n, s0.n⟩ l0 l0 x8 Ox0_8.out.rd Oy0_8.out.rd (by have := HL0.out; omega) (by have := HL0.out; omega)).mono ?_
  rw [decide_eq_true (show l0 = l0 from rfl)]
  rintro e x9 ⟨rfl, b9⟩
  have L9 : Hid (x8.heap.size ≤ x9.heap.size) := b9.size
  have B9 : Hid (Below w.heap.size w x9) := B8.out.trans (b9.mono B8.out.size)
  have KA1_9 : Hid (Blk x9 ga1 37 [.int .i64 D1.kind, .int .i64 D1.id, .slice S1.cn.a S1.cn.n S1.cn.c, .slice S1.sn.a S1.sn.n S1.sn.c, .int .i64 D1.tick, .slice S1.cookie.a S1.cookie.n S1.cookie.c, .slice S1.proof.a S1.proof.n S1.proof.c, .int .i64 D1.epoch, .int .i64 D1.seq, .slice S1.body.a S1.body.n S1.body.c, .slice S1.tag.a S1.tag.n S1.tag.c]) := KA1_8.out.later b9
  have Ox0_9 : Hid (SOwn x9 qx0 x4.heap.size ⟨some ⟨qx0, 0, none⟩, s0.n, s0.n⟩ l0) := Ox0_8.out.later b9
  have Ox1_9 : Hid (FrOwn x9 x4.heap.size x5.heap.size Sx1 D1) := Ox1_8.out.later b9
  have Kx1_9 : Hid (Blk x9 gx1 25 [.int .i64 D1.kind, .int .i64 D1.id, .slice Sx1.cn.a Sx1.cn.n Sx1.cn.c, .slice Sx1.sn.a Sx1.sn.n Sx1.sn.c, .int .i64 D1.tick, .slice Sx1.cookie.a Sx1.cookie.n Sx1.cookie.c, .slice Sx1.proof.a Sx1.proof.n Sx1.proof.c, .int .i64 D1.epoch, .int .i64 D1.seq, .slice Sx1.body.a Sx1.body.n Sx1.body.c, .slice Sx1.tag.a Sx1.tag.n Sx1.tag.c]) := Kx1_8.out.later b9
  have Oy0_9 : Hid (SOwn x9 qy0 x8.heap.size ⟨some ⟨qy0, 0, none⟩, s0.n, s0.n⟩ l0) := Oy0_8.out.later b9
  clear b9 B8 KA1_8 Ox0_8 Ox1_8 Kx1_8 Oy0_8
  clear Oy0_9
  go_upto_region 15 with fail
  go_cut [42] from 38 to 41 (fun sv wx => sv = .bool false ∧ Below x9.heap.size x9 wx)
  case first =>
    rename_i J K' hRJ hMet
    generalize hA : Act.mk _ _ = A
    have a3' : A.eval (.tmp 3) = .pointer (some ⟨ga1, 0, none⟩) := by rw [← hA]; rfl
    have a8' : A.eval (.tmp 8) = .pointer (some ⟨gx1, 0, none⟩) := by rw [← hA]; rfl
    have asz : A.tmps.size = 43 := by rw [← hA]; rfl
    have hKA : ∀ wx, Below x9.heap.size x9 wx → Blk wx ga1 37 [.int .i64 D1.kind, .int .i64 D1.id, .slice S1.cn.a S1.cn.n S1.cn.c, .slice S1.sn.a S1.sn.n S1.sn.c, .int .i64 D1.tick, .slice S1.cookie.a S1.cookie.n S1.cookie.c, .slice S1.proof.a S1.proof.n S1.proof.c, .int .i64 D1.epoch, .int .i64 D1.seq, .slice S1.body.a S1.body.n S1.body.c, .slice S1.tag.a S1.tag.n S1.tag.c] := fun wx hb => KA1_9.out.later hb
    have hKB : ∀ wx, Below x9.heap.size x9 wx → Blk wx gx1 25 [.int .i64 D1.kind, .int .i64 D1.id, .slice Sx1.cn.a Sx1.cn.n Sx1.cn.c, .slice Sx1.sn.a Sx1.sn.n Sx1.sn.c, .int .i64 D1.tick, .slice Sx1.cookie.a Sx1.cookie.n Sx1.cookie.c, .slice Sx1.proof.a Sx1.proof.n Sx1.proof.c, .int .i64 D1.epoch, .int .i64 D1.seq, .slice Sx1.body.a Sx1.body.n Sx1.body.c, .slice Sx1.tag.a Sx1.tag.n Sx1.tag.c] := fun wx hb => Kx1_9.out.later hb
    have hRS : ∀ wx, Below x9.heap.size x9 wx → FrRd wx S1 D1 := fun wx hb => HR1.out.later (B9.out.trans (hb.mono B9.out.size))
    have hRT : ∀ wx, Below x9.heap.size x9 wx → FrRd wx Sx1 D1 := fun wx hb => (Ox1_9.out.later hb).rd
    refine region_each (by kernel_rfl) [38, 39, 40, 41] 4 (fun i => [38, 39, 40, 41].getD i 0) (fun _ => 0)
      (fun i gB v wx => match i with
        | 0 => v = .agg #[.int .i64 D1.kind, .int .i64 D1.id, .slice Sx1.cn.a Sx1.cn.n Sx1.cn.c, .slice Sx1.sn.a Sx1.sn.n Sx1.sn.c, .int .i64 D1.tick, .slice Sx1.cookie.a Sx1.cookie.n Sx1.cookie.c, .slice Sx1.proof.a Sx1.proof.n Sx1.proof.c, .int .i64 D1.epoch, .int .i64 D1.seq, .slice Sx1.body.a Sx1.body.n Sx1.body.c, .slice Sx1.tag.a Sx1.tag.n Sx1.tag.c]
        | 1 => v = .agg #[.int .i64 D1.kind, .int .i64 D1.id, .slice S1.cn.a S1.cn.n S1.cn.c, .slice S1.sn.a S1.sn.n S1.sn.c, .int .i64 D1.tick, .slice S1.cookie.a S1.cookie.n S1.cookie.c, .slice S1.proof.a S1.proof.n S1.proof.c, .int .i64 D1.epoch, .int .i64 D1.seq, .slice S1.body.a S1.body.n S1.body.c, .slice S1.tag.a S1.tag.n S1.tag.c]
        | 2 => ∃ S3, v = frV D1 S3 ∧ FrRd wx S3 D1
        | 3 => v = .bool true
        | _ => False) (fun wx => Below x9.heap.size x9 wx) (by kernel_rfl) (Below.refl _ _).drew ?_ ?_ ?_
    · intro i gB v wx wy hi hF hb _
      match i, hi with
      | 0, _ => exact hF
      | 1, _ => exact hF
      | 2, _ => obtain ⟨S3, h0, h1⟩ := hF; exact ⟨S3, h0, h1.later hb⟩
      | 3, _ => exact hF
    · intro i hi t ρ wx hB hp hd
      match i, hi with
      | 0, _ =>
        have e8 : (fr [38, 39, 40, 41] A t).eval (.tmp 8) = .pointer (some ⟨gx1, 0, none⟩) := (fr_eval_old _ _ _ 8 rfl).trans a8'
        have hc0 := (hKB wx hB).cell 0 rfl
        have hc1 := (hKB wx hB).cell 1 rfl
        have hc2 := (hKB wx hB).cell 2 rfl
        have hc3 := (hKB wx hB).cell 3 rfl
        have hc4 := (hKB wx hB).cell 4 rfl
        have hc5 := (hKB wx hB).cell 5 rfl
        have hc6 := (hKB wx hB).cell 6 rfl
        have hc7 := (hKB wx hB).cell 7 rfl
        have hc8 := (hKB wx hB).cell 8 rfl
        have hc9 := (hKB wx hB).cell 9 rfl
        have hc10 := (hKB wx hB).cell 10 rfl
        refine op_run (v := .agg #[.int .i64 D1.kind, .int .i64 D1.id, .slice Sx1.cn.a Sx1.cn.n Sx1.cn.c, .slice Sx1.sn.a Sx1.sn.n Sx1.sn.c, .int .i64 D1.tick, .slice Sx1.cookie.a Sx1.cookie.n Sx1.cookie.c, .slice Sx1.proof.a Sx1.proof.n Sx1.proof.c, .int .i64 D1.epoch, .int .i64 D1.seq, .slice Sx1.body.a Sx1.body.n Sx1.body.c, .slice Sx1.tag.a Sx1.tag.n Sx1.tag.c]) (w' := wx) rfl rfl ?_ ?_
        · clear hp hd; have ec : ∀ v, (fr [38, 39, 40, 41] A t).eval (.const v) = v := fun _ => rfl; generalize (fr [38, 39, 40, 41] A t).eval = ev at ec e8 ⊢; go_simp
        · exact ⟨_, 0, rfl, hB, Below.refl _ _, rfl, .inl rfl⟩
      | 1, _ =>
        have e3 : (fr [38, 39, 40, 41] A t).eval (.tmp 3) = .pointer (some ⟨ga1, 0, none⟩) := (fr_eval_old _ _ _ 3 rfl).trans a3'
        have hc0 := (hKA wx hB).cell 0 rfl
        have hc1 := (hKA wx hB).cell 1 rfl
        have hc2 := (hKA wx hB).cell 2 rfl
        have hc3 := (hKA wx hB).cell 3 rfl
        have hc4 := (hKA wx hB).cell 4 rfl
        have hc5 := (hKA wx hB).cell 5 rfl
        have hc6 := (hKA wx hB).cell 6 rfl
        have hc7 := (hKA wx hB).cell 7 rfl
        have hc8 := (hKA wx hB).cell 8 rfl
        have hc9 := (hKA wx hB).cell 9 rfl
        have hc10 := (hKA wx hB).cell 10 rfl
        refine op_run (v := .agg #[.int .i64 D1.kind, .int .i64 D1.id, .slice S1.cn.a S1.cn.n S1.cn.c, .slice S1.sn.a S1.sn.n S1.sn.c, .int .i64 D1.tick, .slice S1.cookie.a S1.cookie.n S1.cookie.c, .slice S1.proof.a S1.proof.n S1.proof.c, .int .i64 D1.epoch, .int .i64 D1.seq, .slice S1.body.a S1.body.n S1.body.c, .slice S1.tag.a S1.tag.n S1.tag.c]) (w' := wx) rfl rfl ?_ ?_
        · clear hp hd; have ec : ∀ v, (fr [38, 39, 40, 41] A t).eval (.const v) = v := fun _ => rfl; generalize (fr [38, 39, 40, 41] A t).eval = ev at ec e3 ⊢; go_simp
        · exact ⟨_, 0, rfl, hB, Below.refl _ _, rfl, .inl rfl⟩
      | 2, _ =>
        have e39 : (fr [38, 39, 40, 41] A t).eval (.tmp 39) = .agg #[.int .i64 D1.kind, .int .i64 D1.id, .slice S1.cn.a S1.cn.n S1.cn.c, .slice S1.sn.a S1.sn.n S1.sn.c, .int .i64 D1.tick, .slice S1.cookie.a S1.cookie.n S1.cookie.c, .slice S1.proof.a S1.proof.n S1.proof.c, .int .i64 D1.epoch, .int .i64 D1.seq, .slice S1.body.a S1.body.n S1.body.c, .slice S1.tag.a S1.tag.n S1.tag.c] := (fr_eval _ _ _ 39 rfl (by rw [asz]; decide)).trans (hp 1 (pre_mem (by kernel_rfl)))
        refine op_call (f := 19) (args := #[.agg #[.int .i64 D1.kind, .int .i64 D1.id, .slice S1.cn.a S1.cn.n S1.cn.c, .slice S1.sn.a S1.sn.n S1.sn.c, .int .i64 D1.tick, .slice S1.cookie.a S1.cookie.n S1.cookie.c, .slice S1.proof.a S1.proof.n S1.proof.c, .int .i64 D1.epoch, .int .i64 D1.seq, .slice S1.body.a S1.body.n S1.body.c, .slice S1.tag.a S1.tag.n S1.tag.c]]) rfl rfl ?_ (toFrame S1 D1 wx (hRS wx hB) HLL1.out) ?_
        · have ef : (fr [38, 39, 40, 41] A t).eval (.func 19) = .func (.func 19) #[] #[] := rfl; clear hp hd; have ec : ∀ v, (fr [38, 39, 40, 41] A t).eval (.const v) = v := fun _ => rfl; generalize (fr [38, 39, 40, 41] A t).eval = ev at ec e39 ef ⊢; go_simp
        · rintro e wy ⟨S3, rfl, o3, b1⟩
          exact ⟨_, rfl, _, wx.heap.size, rfl, hB.trans (b1.mono hB.size), b1, ⟨S3, rfl, o3.rd⟩, .inl rfl⟩
      | 3, _ =>
        have e38 : (fr [38, 39, 40, 41] A t).eval (.tmp 38) = .agg #[.int .i64 D1.kind, .int .i64 D1.id, .slice Sx1.cn.a Sx1.cn.n Sx1.cn.c, .slice Sx1.sn.a Sx1.sn.n Sx1.sn.c, .int .i64 D1.tick, .slice Sx1.cookie.a Sx1.cookie.n Sx1.cookie.c, .slice Sx1.proof.a Sx1.proof.n Sx1.proof.c, .int .i64 D1.epoch, .int .i64 D1.seq, .slice Sx1.body.a Sx1.body.n Sx1.body.c, .slice Sx1.tag.a Sx1.tag.n Sx1.tag.c] := (fr_eval _ _ _ 38 rfl (by rw [asz]; decide)).trans (hp 0 (pre_mem (by kernel_rfl)))
        obtain ⟨S32, hv2, q2_0⟩ := hp 2 (pre_mem (by kernel_rfl))
        have e40 : (fr [38, 39, 40, 41] A t).eval (.tmp 40) = frV D1 S32 := (fr_eval _ _ _ 40 rfl (by rw [asz]; decide)).trans hv2
        refine op_call (f := 20) (args := #[.agg #[.int .i64 D1.kind, .int .i64 D1.id, .slice Sx1.cn.a Sx1.cn.n Sx1.cn.c, .slice Sx1.sn.a Sx1.sn.n Sx1.sn.c, .int .i64 D1.tick, .slice Sx1.cookie.a Sx1.cookie.n Sx1.cookie.c, .slice Sx1.proof.a Sx1.proof.n Sx1.proof.c, .int .i64 D1.epoch, .int .i64 D1.seq, .slice Sx1.body.a Sx1.body.n Sx1.body.c, .slice Sx1.tag.a Sx1.tag.n Sx1.tag.c], frV D1 S32]) rfl rfl ?_ (eqFrame Sx1 S32 D1 wx (hRT wx hB) q2_0 HLL1.out) ?_
        · have ef : (fr [38, 39, 40, 41] A t).eval (.func 20) = .func (.func 20) #[] #[] := rfl; clear hp hd q2_0; have ec : ∀ v, (fr [38, 39, 40, 41] A t).eval (.const v) = v := fun _ => rfl; generalize (fr [38, 39, 40, 41] A t).eval = ev at ec e38 e40 ef ⊢; go_simp
        · rintro e wy ⟨rfl, b1⟩
          exact ⟨_, rfl, _, wx.heap.size, rfl, hB.trans (b1.mono hB.size), b1, rfl, .inl rfl⟩
    · intro t ρ wx hB hF hne
      have hv3 := hF 3 (by decide)
      have e41 : (fr [38, 39, 40, 41] A t).eval (.tmp 41) = .bool true := (fr_eval _ _ _ 41 rfl (by rw [asz]; decide)).trans hv3
      clear hne
      refine op_wp rfl rfl ?_
      generalize hE : (fr [38, 39, 40, 41] A t).eval = ev at e41
      unfold Oper.wp
      rw [hE]
      clear hv3
      go_simp
      refine hMet _ _ (Met.intro (hRJ _ _ ⟨t 38, t 39, t 40, t 41, _, ⟨rfl, hB⟩, ?_⟩))
      rw [← hA]; rfl
  case rest =>
  obtain ⟨x10, hq10⟩ : ∃ x10, x10 = wc := ⟨_, rfl⟩
  subst hq10
  obtain ⟨rfl, b10⟩ := hcut
  have L10 : Hid (x9.heap.size ≤ x10.heap.size) := b10.size
  have B10 : Hid (Below w.heap.size w x10) := B9.out.trans (b10.mono B9.out.size)
  have KA1_10 : Hid (Blk x10 ga1 37 [.int .i64 D1.kind, .int .i64 D1.id, .slice S1.cn.a S1.cn.n S1.cn.c, .slice S1.sn.a S1.sn.n S1.sn.c, .int .i64 D1.tick, .slice S1.cookie.a S1.cookie.n S1.cookie.c, .slice S1.proof.a S1.proof.n S1.proof.c, .int .i64 D1.epoch, .int .i64 D1.seq, .slice S1.body.a S1.body.n S1.body.c, .slice S1.tag.a S1.tag.n S1.tag.c]) := KA1_9.out.later b10
  have Ox0_10 : Hid (SOwn x10 qx0 x4.heap.size ⟨some ⟨qx0, 0, none⟩, s0.n, s0.n⟩ l0) := Ox0_9.out.later b10
  have Ox1_10 : Hid (FrOwn x10 x4.heap.size x5.heap.size Sx1 D1) := Ox1_9.out.later b10
  have Kx1_10 : Hid (Blk x10 gx1 25 [.int .i64 D1.kind, .int .i64 D1.id, .slice Sx1.cn.a Sx1.cn.n Sx1.cn.c, .slice Sx1.sn.a Sx1.sn.n Sx1.sn.c, .int .i64 D1.tick, .slice Sx1.cookie.a Sx1.cookie.n Sx1.cookie.c, .slice Sx1.proof.a Sx1.proof.n Sx1.proof.c, .int .i64 D1.epoch, .int .i64 D1.seq, .slice Sx1.body.a Sx1.body.n Sx1.body.c, .slice Sx1.tag.a Sx1.tag.n Sx1.tag.c]) := Kx1_9.out.later b10
  clear b10 B9 KA1_9 Ox0_9 Ox1_9 Kx1_9
  go_wp2
  go_ret
  exact ⟨rfl, B10.out⟩
set_option maxRecDepth 100000 in
theorem walk1 (a0 : Option Addr) (n0 c0 : Nat) (z0 : List Int) (D1 : FrD) (S1 : FrS) (w : World) (hT : Tab w) (h0 : IsRow .u8 w a0 n0 c0 z0) (h1 : FrRd w S1 D1) (m1 : FrSmall S1) :
    Calls Tryz.prog 5 #[.slice a0 n0 c0, frV D1 S1] w fun e w' => e = .returned (.bool true) ∧ Below w.heap.size w w' := by
  obtain ⟨l0, r0⟩ := row_sl h0
  exact walk ⟨a0, n0, c0⟩ l0 D1 S1 w hT r0 h1 m1
end Go.Proofs.YtpenhliaelhnoaaGreatDoor.LawProofOk
