/-
  The walk of the law FnExactTagInput: at every argument it answers true, and nothing that was there is written.
-/
import Derived.Test.YtmcflfpckpjphaaSlI
import Derived.Test.YtmcflfpckpjphaaSlS
import Derived.Test.YtmcflfpckpjphaaShp
import Derived.Test.YtmcflfpckpjphaaOps
import Derived.Test.YtmcflfpckpjphaaFrL
namespace Go.Proofs.Ytmcflfpckpjphaa.LawTagInput
open Go.RowKit Go.Proofs.Ytmcflfpckpjphaa.Mem Go.Proofs.Ytmcflfpckpjphaa.Blk Go.Proofs.Ytmcflfpckpjphaa.Zone Go.Proofs.Ytmcflfpckpjphaa.ZoneB Go.Proofs.Ytmcflfpckpjphaa.ZoneI Go.Proofs.Ytmcflfpckpjphaa.MemI Go.Proofs.Ytmcflfpckpjphaa.Each Go.Proofs.Ytmcflfpckpjphaa.Copy Go.Proofs.Ytmcflfpckpjphaa.Ops Go.Proofs.Ytmcflfpckpjphaa.Shp Go.Proofs.Ytmcflfpckpjphaa.App Go.Proofs.Ytmcflfpckpjphaa.FrZ Go.Proofs.Ytmcflfpckpjphaa.FrL Go.Proofs.Ytmcflfpckpjphaa.FrP Go.Proofs.Ytmcflfpckpjphaa.FrQ Go.Proofs.Ytmcflfpckpjphaa.SlP

set_option maxRecDepth 100000 in
set_option maxHeartbeats 8000000 in
theorem walk (a0 : Int) (D1 : FrD) (S1 : FrS) (w : World)  (h1 : FrRd w S1 D1) (m1 : FrSmall S1) :
    Calls Try.prog 6 #[.int .i64 a0, frV D1 S1] w fun e w' => e = .returned (.bool true) ∧ Below w.heap.size w w' := by
  obtain ⟨R0, hR0⟩ : ∃ R : List Int, tagIn a0 D1 = R := ⟨_, rfl⟩
  have HRD0 : Hid (tagIn a0 D1 = R0) := hR0
  clear hR0
  have HR1 : Hid (FrRd w S1 D1) := h1
  have HM1 : Hid (FrSmall S1) := m1
  clear h1 m1
  obtain ⟨x1, hx1⟩ : ∃ x1, w.alloc (.cells #[.int .i64 D1.kind, .int .i64 D1.id, .slice S1.cn.a S1.cn.n S1.cn.c, .slice S1.sn.a S1.sn.n S1.sn.c, .int .i64 D1.tick, .slice S1.cookie.a S1.cookie.n S1.cookie.c, .slice S1.proof.a S1.proof.n S1.proof.c, .int .i64 D1.epoch, .int .i64 D1.seq, .slice S1.body.a S1.body.n S1.body.c, .slice S1.tag.a S1.tag.n S1.tag.c] 47) = x1 := ⟨_, rfl⟩
  have HW0 : Hid (w.alloc (.cells #[.int .i64 D1.kind, .int .i64 D1.id, .slice S1.cn.a S1.cn.n S1.cn.c, .slice S1.sn.a S1.sn.n S1.sn.c, .int .i64 D1.tick, .slice S1.cookie.a S1.cookie.n S1.cookie.c, .slice S1.proof.a S1.proof.n S1.proof.c, .int .i64 D1.epoch, .int .i64 D1.seq, .slice S1.body.a S1.body.n S1.body.c, .slice S1.tag.a S1.tag.n S1.tag.c] 47) = x1) := hx1
  have b1 : Below w.heap.size w x1 := by rw [← hx1]; exact (Below.refl _ _).alloc (Nat.le_refl _) _
  have KN1 : Blk x1 (w.heap.size) 47 [.int .i64 D1.kind, .int .i64 D1.id, .slice S1.cn.a S1.cn.n S1.cn.c, .slice S1.sn.a S1.sn.n S1.sn.c, .int .i64 D1.tick, .slice S1.cookie.a S1.cookie.n S1.cookie.c, .slice S1.proof.a S1.proof.n S1.proof.c, .int .i64 D1.epoch, .int .i64 D1.seq, .slice S1.body.a S1.body.n S1.body.c, .slice S1.tag.a S1.tag.n S1.tag.c] := by
    have q := Blk.new (w) 47 [.int .i64 D1.kind, .int .i64 D1.id, .slice S1.cn.a S1.cn.n S1.cn.c, .slice S1.sn.a S1.sn.n S1.sn.c, .int .i64 D1.tick, .slice S1.cookie.a S1.cookie.n S1.cookie.c, .slice S1.proof.a S1.proof.n S1.proof.c, .int .i64 D1.epoch, .int .i64 D1.seq, .slice S1.body.a S1.body.n S1.body.c, .slice S1.tag.a S1.tag.n S1.tag.c]
    rw [← hx1]; exact q
  have SZ1 : x1.heap.size = w.heap.size + 1 := by rw [← hx1]; simp
  clear hx1
  have L1 : Hid (w.heap.size ≤ x1.heap.size) := b1.size
  have B1 : Hid (Below w.heap.size w x1) := b1
  clear b1
  unfold frV
  go_enter Try.func6, Try.ntmps6
  go_upto_region 1 with fail
  rw [HW0.out]
  obtain ⟨ga1, hga1⟩ : ∃ g, w.heap.size = g := ⟨_, rfl⟩
  have Gga : Hid (w.heap.size + 0 = ga1 ∧ x1.heap.size = w.heap.size + 1) := ⟨by omega, SZ1⟩
  rw [hga1] at KN1
  rw [hga1]
  clear HW0 SZ1 hga1
  have KA1_1 : Hid (Blk x1 ga1 47 [.int .i64 D1.kind, .int .i64 D1.id, .slice S1.cn.a S1.cn.n S1.cn.c, .slice S1.sn.a S1.sn.n S1.sn.c, .int .i64 D1.tick, .slice S1.cookie.a S1.cookie.n S1.cookie.c, .slice S1.proof.a S1.proof.n S1.proof.c, .int .i64 D1.epoch, .int .i64 D1.seq, .slice S1.body.a S1.body.n S1.body.c, .slice S1.tag.a S1.tag.n S1.tag.c]) := KN1
  clear KN1
  have c0 := KA1_1.out.cell 0 rfl
  have c1 := KA1_1.out.cell 1 rfl
  have c2 := KA1_1.out.cell 2 rfl
  have c3 := KA1_1.out.cell 3 rfl
  have c4 := KA1_1.out.cell 4 rfl
  have c5 := KA1_1.out.cell 5 rfl
  have c6 := KA1_1.out.cell 6 rfl
  have c7 := KA1_1.out.cell 7 rfl
  have c8 := KA1_1.out.cell 8 rfl
  have c9 := KA1_1.out.cell 9 rfl
  have c10 := KA1_1.out.cell 10 rfl
  go_wp2_with fail
  refine (szFrame S1 D1 (1048576 : Int) x1 HM1.out (by omega) (by omega)).mono ?_
  rintro e x2 ⟨rfl, b2⟩
  clear c0 c1 c2 c3 c4 c5 c6 c7 c8 c9 c10
  have L2 : Hid (x1.heap.size ≤ x2.heap.size) := b2.size
  have B2 : Hid (Below w.heap.size w x2) := B1.out.trans (b2.mono B1.out.size)
  have KA1_2 : Hid (Blk x2 ga1 47 [.int .i64 D1.kind, .int .i64 D1.id, .slice S1.cn.a S1.cn.n S1.cn.c, .slice S1.sn.a S1.sn.n S1.sn.c, .int .i64 D1.tick, .slice S1.cookie.a S1.cookie.n S1.cookie.c, .slice S1.proof.a S1.proof.n S1.proof.c, .int .i64 D1.epoch, .int .i64 D1.seq, .slice S1.body.a S1.body.n S1.body.c, .slice S1.tag.a S1.tag.n S1.tag.c]) := KA1_1.out.later b2
  clear b2 B1 KA1_1
  by_cases hsum1 : (1048576 : Int) - (frSum S1 : Int) < 0
  · rw [if_pos hsum1]
    go_wp2
    go_ret
    exact ⟨rfl, B2.out⟩
  rw [if_neg hsum1]
  have HL1 : Hid (FrShort D1 1048576) := fr_short_of HR1.out (by omega)
  have HLL1 : Hid (FrShort D1 4194304) := fr_short_le HL1.out (by omega)
  have HRS0 : Hid (R0.length ≤ 1048576) := by rw [← HRD0.out]; exact Nat.le_trans (tagIn_le _ _) (by omega)
  have c0 := KA1_2.out.cell 0 rfl
  have c1 := KA1_2.out.cell 1 rfl
  have c2 := KA1_2.out.cell 2 rfl
  have c3 := KA1_2.out.cell 3 rfl
  have c4 := KA1_2.out.cell 4 rfl
  have c5 := KA1_2.out.cell 5 rfl
  have c6 := KA1_2.out.cell 6 rfl
  have c7 := KA1_2.out.cell 7 rfl
  have c8 := KA1_2.out.cell 8 rfl
  have c9 := KA1_2.out.cell 9 rfl
  have c10 := KA1_2.out.cell 10 rfl
  go_wp2_with fail
  refine (toFrame S1 D1 x2 (HR1.out.later B2.out) HLL1.out).mono ?_
  rintro e x3 ⟨Sp1, rfl, o, b3⟩
  clear c0 c1 c2 c3 c4 c5 c6 c7 c8 c9 c10
  have L3 : Hid (x2.heap.size ≤ x3.heap.size) := b3.size
  have B3 : Hid (Below w.heap.size w x3) := B2.out.trans (b3.mono B2.out.size)
  have KA1_3 : Hid (Blk x3 ga1 47 [.int .i64 D1.kind, .int .i64 D1.id, .slice S1.cn.a S1.cn.n S1.cn.c, .slice S1.sn.a S1.sn.n S1.sn.c, .int .i64 D1.tick, .slice S1.cookie.a S1.cookie.n S1.cookie.c, .slice S1.proof.a S1.proof.n S1.proof.c, .int .i64 D1.epoch, .int .i64 D1.seq, .slice S1.body.a S1.body.n S1.body.c, .slice S1.tag.a S1.tag.n S1.tag.c]) := KA1_2.out.later b3
  clear b3 B2 KA1_2
  have Op1_3 : Hid (FrOwn x3 x2.heap.size x3.heap.size Sp1 D1) := o
  clear o
  go_wp2_with fail
  refine ((SlS.specTagInput a0 Sp1 D1 x3 Op1_3.out.rd).mono (fun _ _ h => AnsB.of (tagIn_bytes _ _ HR1.out.sn.bytes HR1.out.body.bytes) h)).mono ?_
  rw [HRD0.out]
  rintro e x4 ⟨Sw0, rfl, o0, b⟩
  have L4 : Hid (x3.heap.size ≤ x4.heap.size) := b.size
  have B4 : Hid (Below w.heap.size w x4) := B3.out.trans (b.mono B3.out.size)
  have KA1_4 : Hid (Blk x4 ga1 47 [.int .i64 D1.kind, .int .i64 D1.id, .slice S1.cn.a S1.cn.n S1.cn.c, .slice S1.sn.a S1.sn.n S1.sn.c, .int .i64 D1.tick, .slice S1.cookie.a S1.cookie.n S1.cookie.c, .slice S1.proof.a S1.proof.n S1.proof.c, .int .i64 D1.epoch, .int .i64 D1.seq, .slice S1.body.a S1.body.n S1.body.c, .slice S1.tag.a S1.tag.n S1.tag.c]) := KA1_3.out.later b
  have Op1_4 : Hid (FrOwn x4 x2.heap.size x3.heap.size Sp1 D1) := Op1_3.out.later b
  clear b B3 KA1_3 Op1_3
  have Ow0r_4 : Hid (SOwn x4 x3.heap.size x4.heap.size Sw0 R0) := o0
  clear o0
  go_upto_region 6 with fail
  clear Op1_4
  have c0 := KA1_4.out.cell 0 rfl
  have c1 := KA1_4.out.cell 1 rfl
  have c2 := KA1_4.out.cell 2 rfl
  have c3 := KA1_4.out.cell 3 rfl
  have c4 := KA1_4.out.cell 4 rfl
  have c5 := KA1_4.out.cell 5 rfl
  have c6 := KA1_4.out.cell 6 rfl
  have c7 := KA1_4.out.cell 7 rfl
  have c8 := KA1_4.out.cell 8 rfl
  have c9 := KA1_4.out.cell 9 rfl
  have c10 := KA1_4.out.cell 10 rfl
  go_wp2_with fail
  refine (toFrame S1 D1 x4 (HR1.out.later B4.out) HLL1.out).mono ?_
  rintro e x5 ⟨Sx1, rfl, o, b5⟩
  clear c0 c1 c2 c3 c4 c5 c6 c7 c8 c9 c10
  have L5 : Hid (x4.heap.size ≤ x5.heap.size) := b5.size
  have B5 : Hid (Below w.heap.size w x5) := B4.out.trans (b5.mono B4.out.size)
  have KA1_5 : Hid (Blk x5 ga1 47 [.int .i64 D1.kind, .int .i64 D1.id, .slice S1.cn.a S1.cn.n S1.cn.c, .slice S1.sn.a S1.sn.n S1.sn.c, .int .i64 D1.tick, .slice S1.cookie.a S1.cookie.n S1.cookie.c, .slice S1.proof.a S1.proof.n S1.proof.c, .int .i64 D1.epoch, .int .i64 D1.seq, .slice S1.body.a S1.body.n S1.body.c, .slice S1.tag.a S1.tag.n S1.tag.c]) := KA1_4.out.later b5
  have Ow0r_5 : Hid (SOwn x5 x3.heap.size x4.heap.size Sw0 R0) := Ow0r_4.out.later b5
  clear b5 B4 KA1_4 Ow0r_4
  have Ox1_5 : Hid (FrOwn x5 x4.heap.size x5.heap.size Sx1 D1) := o
  clear o
  obtain ⟨x6, hx6⟩ : ∃ x6, x5.alloc (.cells #[.int .i64 D1.kind, .int .i64 D1.id, .slice Sx1.cn.a Sx1.cn.n Sx1.cn.c, .slice Sx1.sn.a Sx1.sn.n Sx1.sn.c, .int .i64 D1.tick, .slice Sx1.cookie.a Sx1.cookie.n Sx1.cookie.c, .slice Sx1.proof.a Sx1.proof.n Sx1.proof.c, .int .i64 D1.epoch, .int .i64 D1.seq, .slice Sx1.body.a Sx1.body.n Sx1.body.c, .slice Sx1.tag.a Sx1.tag.n Sx1.tag.c] 39) = x6 := ⟨_, rfl⟩
  have HW6 : Hid (x5.alloc (.cells #[.int .i64 D1.kind, .int .i64 D1.id, .slice Sx1.cn.a Sx1.cn.n Sx1.cn.c, .slice Sx1.sn.a Sx1.sn.n Sx1.sn.c, .int .i64 D1.tick, .slice Sx1.cookie.a Sx1.cookie.n Sx1.cookie.c, .slice Sx1.proof.a Sx1.proof.n Sx1.proof.c, .int .i64 D1.epoch, .int .i64 D1.seq, .slice Sx1.body.a Sx1.body.n Sx1.body.c, .slice Sx1.tag.a Sx1.tag.n Sx1.tag.c] 39) = x6) := hx6
  have b6 : Below x5.heap.size x5 x6 := by rw [← hx6]; exact (Below.refl _ _).alloc (Nat.le_refl _) _
  have KN : Blk x6 x5.heap.size 39 [.int .i64 D1.kind, .int .i64 D1.id, .slice Sx1.cn.a Sx1.cn.n Sx1.cn.c, .slice Sx1.sn.a Sx1.sn.n Sx1.sn.c, .int .i64 D1.tick, .slice Sx1.cookie.a Sx1.cookie.n Sx1.cookie.c, .slice Sx1.proof.a Sx1.proof.n Sx1.proof.c, .int .i64 D1.epoch, .int .i64 D1.seq, .slice Sx1.body.a Sx1.body.n Sx1.body.c, .slice Sx1.tag.a Sx1.tag.n Sx1.tag.c] := by rw [← hx6]; exact Blk.new x5 _ _
  have HSZ6 : Hid (x6.heap.size = x5.heap.size + 1) := by rw [← hx6]; show _ = _; simp
  clear hx6
  have L6 : Hid (x5.heap.size ≤ x6.heap.size) := b6.size
  have B6 : Hid (Below w.heap.size w x6) := B5.out.trans (b6.mono B5.out.size)
  have KA1_6 : Hid (Blk x6 ga1 47 [.int .i64 D1.kind, .int .i64 D1.id, .slice S1.cn.a S1.cn.n S1.cn.c, .slice S1.sn.a S1.sn.n S1.sn.c, .int .i64 D1.tick, .slice S1.cookie.a S1.cookie.n S1.cookie.c, .slice S1.proof.a S1.proof.n S1.proof.c, .int .i64 D1.epoch, .int .i64 D1.seq, .slice S1.body.a S1.body.n S1.body.c, .slice S1.tag.a S1.tag.n S1.tag.c]) := KA1_5.out.later b6
  have Ow0r_6 : Hid (SOwn x6 x3.heap.size x4.heap.size Sw0 R0) := Ow0r_5.out.later b6
  have Ox1_6 : Hid (FrOwn x6 x4.heap.size x5.heap.size Sx1 D1) := Ox1_5.out.later b6
  clear b6 B5 KA1_5 Ow0r_5 Ox1_5
  unfold frV
  go_upto_region 7 with fail
  rw [HW6.out]
  obtain ⟨gx1, hgx1⟩ : ∃ gx1, x5.heap.size = gx1 := ⟨_, rfl⟩
  have Ggx1 : Hid (x5.heap.size = gx1 ∧ x6.heap.size = gx1 + 1) := ⟨hgx1, by rw [← hgx1]; exact HSZ6.out⟩
  rw [hgx1] at KN ⊢
  clear HW6 HSZ6 hgx1
  have Kx1_6 : Hid (Blk x6 gx1 39 [.int .i64 D1.kind, .int .i64 D1.id, .slice Sx1.cn.a Sx1.cn.n Sx1.cn.c, .slice Sx1.sn.a Sx1.sn.n Sx1.sn.c, .int .i64 D1.tick, .slice Sx1.cookie.a Sx1.cookie.n Sx1.cookie.c, .slice Sx1.proof.a Sx1.proof.n Sx1.proof.c, .int .i64 D1.epoch, .int .i64 D1.seq, .slice Sx1.body.a Sx1.body.n Sx1.body.c, .slice Sx1.tag.a Sx1.tag.n Sx1.tag.c]) := KN
  clear KN
  have cx1_0 := Kx1_6.out.cell 0 rfl
  have cx1_1 := Kx1_6.out.cell 1 rfl
  have cx1_2 := Kx1_6.out.cell 2 rfl
  have cx1_3 := Kx1_6.out.cell 3 rfl
  have cx1_4 := Kx1_6.out.cell 4 rfl
  have cx1_5 := Kx1_6.out.cell 5 rfl
  have cx1_6 := Kx1_6.out.cell 6 rfl
  have cx1_7 := Kx1_6.out.cell 7 rfl
  have cx1_8 := Kx1_6.out.cell 8 rfl
  have cx1_9 := Kx1_6.out.cell 9 rfl
  have cx1_10 := Kx1_6.out.cell 10 rfl
  go_wp2_with fail
  refine ((SlI.implTagInput a0 Sx1 D1 x6 Ox1_6.out.rd).mono (fun _ _ h => AnsB.of (tagIn_bytes _ _ HR1.out.sn.bytes HR1.out.body.bytes) h)).mono ?_
  rw [HRD0.out]
  rintro e x7 ⟨Sg0, rfl, o0, b⟩
  clear cx1_0 cx1_1 cx1_2 cx1_3 cx1_4 cx1_5 cx1_6 cx1_7 cx1_8 cx1_9 cx1_10
  have L7 : Hid (x6.heap.size ≤ x7.heap.size) := b.size
  have B7 : Hid (Below w.heap.size w x7) := B6.out.trans (b.mono B6.out.size)
  have KA1_7 : Hid (Blk x7 ga1 47 [.int .i64 D1.kind, .int .i64 D1.id, .slice S1.cn.a S1.cn.n S1.cn.c, .slice S1.sn.a S1.sn.n S1.sn.c, .int .i64 D1.tick, .slice S1.cookie.a S1.cookie.n S1.cookie.c, .slice S1.proof.a S1.proof.n S1.proof.c, .int .i64 D1.epoch, .int .i64 D1.seq, .slice S1.body.a S1.body.n S1.body.c, .slice S1.tag.a S1.tag.n S1.tag.c]) := KA1_6.out.later b
  have Ow0r_7 : Hid (SOwn x7 x3.heap.size x4.heap.size Sw0 R0) := Ow0r_6.out.later b
  have Ox1_7 : Hid (FrOwn x7 x4.heap.size x5.heap.size Sx1 D1) := Ox1_6.out.later b
  have Kx1_7 : Hid (Blk x7 gx1 39 [.int .i64 D1.kind, .int .i64 D1.id, .slice Sx1.cn.a Sx1.cn.n Sx1.cn.c, .slice Sx1.sn.a Sx1.sn.n Sx1.sn.c, .int .i64 D1.tick, .slice Sx1.cookie.a Sx1.cookie.n Sx1.cookie.c, .slice Sx1.proof.a Sx1.proof.n Sx1.proof.c, .int .i64 D1.epoch, .int .i64 D1.seq, .slice Sx1.body.a Sx1.body.n Sx1.body.c, .slice Sx1.tag.a Sx1.tag.n Sx1.tag.c]) := Kx1_6.out.later b
  clear b B6 KA1_6 Ow0r_6 Ox1_6 Kx1_6
  have Og0r_7 : Hid (SOwn x7 x6.heap.size x7.heap.size Sg0 R0) := o0
  clear o0
  go_upto_region 8 with fail
  go_wp2_with fail
  refine (eqB Sg0 Sw0 R0 R0 x7 Og0r_7.out.rd Ow0r_7.out.rd (by have := HRS0.out; omega) (by have := HRS0.out; omega)).mono ?_
  rw [decide_eq_true (show R0 = R0 from rfl)]
  rintro e x8 ⟨rfl, b8⟩
  have L8 : Hid (x7.heap.size ≤ x8.heap.size) := b8.size
  have B8 : Hid (Below w.heap.size w x8) := B7.out.trans (b8.mono B7.out.size)
  have KA1_8 : Hid (Blk x8 ga1 47 [.int .i64 D1.kind, .int .i64 D1.id, .slice S1.cn.a S1.cn.n S1.cn.c, .slice S1.sn.a S1.sn.n S1.sn.c, .int .i64 D1.tick, .slice S1.cookie.a S1.cookie.n S1.cookie.c, .slice S1.proof.a S1.proof.n S1.proof.c, .int .i64 D1.epoch, .int .i64 D1.seq, .slice S1.body.a S1.body.n S1.body.c, .slice S1.tag.a S1.tag.n S1.tag.c]) := KA1_7.out.later b8
  have Ow0r_8 : Hid (SOwn x8 x3.heap.size x4.heap.size Sw0 R0) := Ow0r_7.out.later b8
  have Ox1_8 : Hid (FrOwn x8 x4.heap.size x5.heap.size Sx1 D1) := Ox1_7.out.later b8
  have Kx1_8 : Hid (Blk x8 gx1 39 [.int .i64 D1.kind, .int .i64 D1.id, .slice Sx1.cn.a Sx1.cn.n Sx1.cn.c, .slice Sx1.sn.a Sx1.sn.n Sx1.sn.c, .int .i64 D1.tick, .slice Sx1.cookie.a Sx1.cookie.n Sx1.cookie.c, .slice Sx1.proof.a Sx1.proof.n Sx1.proof.c, .int .i64 D1.epoch, .int .i64 D1.seq, .slice Sx1.body.a Sx1.body.n Sx1.body.c, .slice Sx1.tag.a Sx1.tag.n Sx1.tag.c]) := Kx1_7.out.later b8
  have Og0r_8 : Hid (SOwn x8 x6.heap.size x7.heap.size Sg0 R0) := Og0r_7.out.later b8
  clear b8 B7 KA1_7 Ow0r_7 Ox1_7 Kx1_7 Og0r_7
  go_upto_region 10 with fail
  go_cut [35] from 31 to 34 (fun sv wx => sv = .bool false ∧ Below x8.heap.size x8 wx)
  case first =>
    rename_i J K' hRJ hMet
    generalize hA : Act.mk _ _ = A
    have a3' : A.eval (.tmp 3) = .pointer (some ⟨ga1, 0, none⟩) := by rw [← hA]; rfl
    have a7' : A.eval (.tmp 7) = .pointer (some ⟨gx1, 0, none⟩) := by rw [← hA]; rfl
    have asz : A.tmps.size = 74 := by rw [← hA]; rfl
    have hKA : ∀ wx, Below x8.heap.size x8 wx → Blk wx ga1 47 [.int .i64 D1.kind, .int .i64 D1.id, .slice S1.cn.a S1.cn.n S1.cn.c, .slice S1.sn.a S1.sn.n S1.sn.c, .int .i64 D1.tick, .slice S1.cookie.a S1.cookie.n S1.cookie.c, .slice S1.proof.a S1.proof.n S1.proof.c, .int .i64 D1.epoch, .int .i64 D1.seq, .slice S1.body.a S1.body.n S1.body.c, .slice S1.tag.a S1.tag.n S1.tag.c] := fun wx hb => KA1_8.out.later hb
    have hKB : ∀ wx, Below x8.heap.size x8 wx → Blk wx gx1 39 [.int .i64 D1.kind, .int .i64 D1.id, .slice Sx1.cn.a Sx1.cn.n Sx1.cn.c, .slice Sx1.sn.a Sx1.sn.n Sx1.sn.c, .int .i64 D1.tick, .slice Sx1.cookie.a Sx1.cookie.n Sx1.cookie.c, .slice Sx1.proof.a Sx1.proof.n Sx1.proof.c, .int .i64 D1.epoch, .int .i64 D1.seq, .slice Sx1.body.a Sx1.body.n Sx1.body.c, .slice Sx1.tag.a Sx1.tag.n Sx1.tag.c] := fun wx hb => Kx1_8.out.later hb
    have hRS : ∀ wx, Below x8.heap.size x8 wx → FrRd wx S1 D1 := fun wx hb => HR1.out.later (B8.out.trans (hb.mono B8.out.size))
    have hRT : ∀ wx, Below x8.heap.size x8 wx → FrRd wx Sx1 D1 := fun wx hb => (Ox1_8.out.later hb).rd
    refine region_each (by kernel_rfl) [31, 32, 33, 34] 4 (fun i => [31, 32, 33, 34].getD i 0) (fun _ => 0)
      (fun i gB v wx => match i with
        | 0 => v = .agg #[.int .i64 D1.kind, .int .i64 D1.id, .slice Sx1.cn.a Sx1.cn.n Sx1.cn.c, .slice Sx1.sn.a Sx1.sn.n Sx1.sn.c, .int .i64 D1.tick, .slice Sx1.cookie.a Sx1.cookie.n Sx1.cookie.c, .slice Sx1.proof.a Sx1.proof.n Sx1.proof.c, .int .i64 D1.epoch, .int .i64 D1.seq, .slice Sx1.body.a Sx1.body.n Sx1.body.c, .slice Sx1.tag.a Sx1.tag.n Sx1.tag.c]
        | 1 => v = .agg #[.int .i64 D1.kind, .int .i64 D1.id, .slice S1.cn.a S1.cn.n S1.cn.c, .slice S1.sn.a S1.sn.n S1.sn.c, .int .i64 D1.tick, .slice S1.cookie.a S1.cookie.n S1.cookie.c, .slice S1.proof.a S1.proof.n S1.proof.c, .int .i64 D1.epoch, .int .i64 D1.seq, .slice S1.body.a S1.body.n S1.body.c, .slice S1.tag.a S1.tag.n S1.tag.c]
        | 2 => ∃ S3, v = frV D1 S3 ∧ FrRd wx S3 D1
        | 3 => v = .bool true
        | _ => False) (fun wx => Below x8.heap.size x8 wx) (by kernel_rfl) (Below.refl _ _).drew ?_ ?_ ?_
    · intro i gB v wx wy hi hF hb _
      match i, hi with
      | 0, _ => exact hF
      | 1, _ => exact hF
      | 2, _ => obtain ⟨S3, h0, h1⟩ := hF; exact ⟨S3, h0, h1.later hb⟩
      | 3, _ => exact hF
    · intro i hi t ρ wx hB hp hd
      match i, hi with
      | 0, _ =>
        have e7 : (fr [31, 32, 33, 34] A t).eval (.tmp 7) = .pointer (some ⟨gx1, 0, none⟩) := (fr_eval_old _ _ _ 7 rfl).trans a7'
        have hc0 := (hKB wx hB).cell 0 rfl
        have hc1 := (hKB wx hB).cell 1 rfl
        have hc2 := (hKB wx hB).cell 2 rfl
        have hc3 := (hKB wx hB).cell 3 rfl
        have hc4 := (hKB wx hB).cell 4 rfl
        have hc5 := (hKB wx hB).cell 5 rfl
        have hc6 := (hKB wx hB).cell 6 rfl
        have hc7 := (hKB wx hB).cell 7 rfl
        have hc8 := (hKB wx hB).cell 8 rfl
        have hc9 := (hKB wx hB).cell 9 rfl
        have hc10 := (hKB wx hB).cell 10 rfl
        refine op_run (v := .agg #[.int .i64 D1.kind, .int .i64 D1.id, .slice Sx1.cn.a Sx1.cn.n Sx1.cn.c, .slice Sx1.sn.a Sx1.sn.n Sx1.sn.c, .int .i64 D1.tick, .slice Sx1.cookie.a Sx1.cookie.n Sx1.cookie.c, .slice Sx1.proof.a Sx1.proof.n Sx1.proof.c, .int .i64 D1.epoch, .int .i64 D1.seq, .slice Sx1.body.a Sx1.body.n Sx1.body.c, .slice Sx1.tag.a Sx1.tag.n Sx1.tag.c]) (w' := wx) rfl rfl ?_ ?_
        · clear hp hd; have ec : ∀ v, (fr [31, 32, 33, 34] A t).eval (.const v) = v := fun _ => rfl; generalize (fr [31, 32, 33, 34] A t).eval = ev at ec e7 ⊢; go_simp
        · exact ⟨_, 0, rfl, hB, Below.refl _ _, rfl, .inl rfl⟩
      | 1, _ =>
        have e3 : (fr [31, 32, 33, 34] A t).eval (.tmp 3) = .pointer (some ⟨ga1, 0, none⟩) := (fr_eval_old _ _ _ 3 rfl).trans a3'
        have hc0 := (hKA wx hB).cell 0 rfl
        have hc1 := (hKA wx hB).cell 1 rfl
        have hc2 := (hKA wx hB).cell 2 rfl
        have hc3 := (hKA wx hB).cell 3 rfl
        have hc4 := (hKA wx hB).cell 4 rfl
        have hc5 := (hKA wx hB).cell 5 rfl
        have hc6 := (hKA wx hB).cell 6 rfl
        have hc7 := (hKA wx hB).cell 7 rfl
        have hc8 := (hKA wx hB).cell 8 rfl
        have hc9 := (hKA wx hB).cell 9 rfl
        have hc10 := (hKA wx hB).cell 10 rfl
        refine op_run (v := .agg #[.int .i64 D1.kind, .int .i64 D1.id, .slice S1.cn.a S1.cn.n S1.cn.c, .slice S1.sn.a S1.sn.n S1.sn.c, .int .i64 D1.tick, .slice S1.cookie.a S1.cookie.n S1.cookie.c, .slice S1.proof.a S1.proof.n S1.proof.c, .int .i64 D1.epoch, .int .i64 D1.seq, .slice S1.body.a S1.body.n S1.body.c, .slice S1.tag.a S1.tag.n S1.tag.c]) (w' := wx) rfl rfl ?_ ?_
        · clear hp hd; have ec : ∀ v, (fr [31, 32, 33, 34] A t).eval (.const v) = v := fun _ => rfl; generalize (fr [31, 32, 33, 34] A t).eval = ev at ec e3 ⊢; go_simp
        · exact ⟨_, 0, rfl, hB, Below.refl _ _, rfl, .inl rfl⟩
      | 2, _ =>
        have e32 : (fr [31, 32, 33, 34] A t).eval (.tmp 32) = .agg #[.int .i64 D1.kind, .int .i64 D1.id, .slice S1.cn.a S1.cn.n S1.cn.c, .slice S1.sn.a S1.sn.n S1.sn.c, .int .i64 D1.tick, .slice S1.cookie.a S1.cookie.n S1.cookie.c, .slice S1.proof.a S1.proof.n S1.proof.c, .int .i64 D1.epoch, .int .i64 D1.seq, .slice S1.body.a S1.body.n S1.body.c, .slice S1.tag.a S1.tag.n S1.tag.c] := (fr_eval _ _ _ 32 rfl (by rw [asz]; decide)).trans (hp 1 (pre_mem (by kernel_rfl)))
        refine op_call (f := 33) (args := #[.agg #[.int .i64 D1.kind, .int .i64 D1.id, .slice S1.cn.a S1.cn.n S1.cn.c, .slice S1.sn.a S1.sn.n S1.sn.c, .int .i64 D1.tick, .slice S1.cookie.a S1.cookie.n S1.cookie.c, .slice S1.proof.a S1.proof.n S1.proof.c, .int .i64 D1.epoch, .int .i64 D1.seq, .slice S1.body.a S1.body.n S1.body.c, .slice S1.tag.a S1.tag.n S1.tag.c]]) rfl rfl ?_ (toFrame S1 D1 wx (hRS wx hB) HLL1.out) ?_
        · have ef : (fr [31, 32, 33, 34] A t).eval (.func 33) = .func (.func 33) #[] #[] := rfl; clear hp hd; have ec : ∀ v, (fr [31, 32, 33, 34] A t).eval (.const v) = v := fun _ => rfl; generalize (fr [31, 32, 33, 34] A t).eval = ev at ec e32 ef ⊢; go_simp
        · rintro e wy ⟨S3, rfl, o3, b1⟩
          exact ⟨_, rfl, _, wx.heap.size, rfl, hB.trans (b1.mono hB.size), b1, ⟨S3, rfl, o3.rd⟩, .inl rfl⟩
      | 3, _ =>
        have e31 : (fr [31, 32, 33, 34] A t).eval (.tmp 31) = .agg #[.int .i64 D1.kind, .int .i64 D1.id, .slice Sx1.cn.a Sx1.cn.n Sx1.cn.c, .slice Sx1.sn.a Sx1.sn.n Sx1.sn.c, .int .i64 D1.tick, .slice Sx1.cookie.a Sx1.cookie.n Sx1.cookie.c, .slice Sx1.proof.a Sx1.proof.n Sx1.proof.c, .int .i64 D1.epoch, .int .i64 D1.seq, .slice Sx1.body.a Sx1.body.n Sx1.body.c, .slice Sx1.tag.a Sx1.tag.n Sx1.tag.c] := (fr_eval _ _ _ 31 rfl (by rw [asz]; decide)).trans (hp 0 (pre_mem (by kernel_rfl)))
        obtain ⟨S32, hv2, q2_0⟩ := hp 2 (pre_mem (by kernel_rfl))
        have e33 : (fr [31, 32, 33, 34] A t).eval (.tmp 33) = frV D1 S32 := (fr_eval _ _ _ 33 rfl (by rw [asz]; decide)).trans hv2
        refine op_call (f := 34) (args := #[.agg #[.int .i64 D1.kind, .int .i64 D1.id, .slice Sx1.cn.a Sx1.cn.n Sx1.cn.c, .slice Sx1.sn.a Sx1.sn.n Sx1.sn.c, .int .i64 D1.tick, .slice Sx1.cookie.a Sx1.cookie.n Sx1.cookie.c, .slice Sx1.proof.a Sx1.proof.n Sx1.proof.c, .int .i64 D1.epoch, .int .i64 D1.seq, .slice Sx1.body.a Sx1.body.n Sx1.body.c, .slice Sx1.tag.a Sx1.tag.n Sx1.tag.c], frV D1 S32]) rfl rfl ?_ (eqFrame Sx1 S32 D1 wx (hRT wx hB) q2_0 HLL1.out) ?_
        · have ef : (fr [31, 32, 33, 34] A t).eval (.func 34) = .func (.func 34) #[] #[] := rfl; clear hp hd q2_0; have ec : ∀ v, (fr [31, 32, 33, 34] A t).eval (.const v) = v := fun _ => rfl; generalize (fr [31, 32, 33, 34] A t).eval = ev at ec e31 e33 ef ⊢; go_simp
        · rintro e wy ⟨rfl, b1⟩
          exact ⟨_, rfl, _, wx.heap.size, rfl, hB.trans (b1.mono hB.size), b1, rfl, .inl rfl⟩
    · intro t ρ wx hB hF hne
      have hv3 := hF 3 (by decide)
      have e34 : (fr [31, 32, 33, 34] A t).eval (.tmp 34) = .bool true := (fr_eval _ _ _ 34 rfl (by rw [asz]; decide)).trans hv3
      clear hne
      refine op_wp rfl rfl ?_
      generalize hE : (fr [31, 32, 33, 34] A t).eval = ev at e34
      unfold Oper.wp
      rw [hE]
      clear hv3
      go_simp
      refine hMet _ _ (Met.intro (hRJ _ _ ⟨t 31, t 32, t 33, t 34, _, ⟨rfl, hB⟩, ?_⟩))
      rw [← hA]; rfl
  case rest =>
  obtain ⟨x9, hq9⟩ : ∃ x9, x9 = wc := ⟨_, rfl⟩
  subst hq9
  obtain ⟨rfl, b9⟩ := hcut
  have L9 : Hid (x8.heap.size ≤ x9.heap.size) := b9.size
  have B9 : Hid (Below w.heap.size w x9) := B8.out.trans (b9.mono B8.out.size)
  have KA1_9 : Hid (Blk x9 ga1 47 [.int .i64 D1.kind, .int .i64 D1.id, .slice S1.cn.a S1.cn.n S1.cn.c, .slice S1.sn.a S1.sn.n S1.sn.c, .int .i64 D1.tick, .slice S1.cookie.a S1.cookie.n S1.cookie.c, .slice S1.proof.a S1.proof.n S1.proof.c, .int .i64 D1.epoch, .int .i64 D1.seq, .slice S1.body.a S1.body.n S1.body.c, .slice S1.tag.a S1.tag.n S1.tag.c]) := KA1_8.out.later b9
  have Ow0r_9 : Hid (SOwn x9 x3.heap.size x4.heap.size Sw0 R0) := Ow0r_8.out.later b9
  have Ox1_9 : Hid (FrOwn x9 x4.heap.size x5.heap.size Sx1 D1) := Ox1_8.out.later b9
  have Kx1_9 : Hid (Blk x9 gx1 39 [.int .i64 D1.kind, .int .i64 D1.id, .slice Sx1.cn.a Sx1.cn.n Sx1.cn.c, .slice Sx1.sn.a Sx1.sn.n Sx1.sn.c, .int .i64 D1.tick, .slice Sx1.cookie.a Sx1.cookie.n Sx1.cookie.c, .slice Sx1.proof.a Sx1.proof.n Sx1.proof.c, .int .i64 D1.epoch, .int .i64 D1.seq, .slice Sx1.body.a Sx1.body.n Sx1.body.c, .slice Sx1.tag.a Sx1.tag.n Sx1.tag.c]) := Kx1_8.out.later b9
  have Og0r_9 : Hid (SOwn x9 x6.heap.size x7.heap.size Sg0 R0) := Og0r_8.out.later b9
  clear b9 B8 KA1_8 Ow0r_8 Ox1_8 Kx1_8 Og0r_8
  have hks1 : (frSum Sx1 : Int) ≤ 1048576 := by have := fr_sum_eq HR1.out Ox1_9.out.rd; omega
  have ca0 := Kx1_9.out.cell 0 rfl
  have ca1 := Kx1_9.out.cell 1 rfl
  have ca2 := Kx1_9.out.cell 2 rfl
  have ca3 := Kx1_9.out.cell 3 rfl
  have ca4 := Kx1_9.out.cell 4 rfl
  have ca5 := Kx1_9.out.cell 5 rfl
  have ca6 := Kx1_9.out.cell 6 rfl
  have ca7 := Kx1_9.out.cell 7 rfl
  have ca8 := Kx1_9.out.cell 8 rfl
  have ca9 := Kx1_9.out.cell 9 rfl
  have ca10 := Kx1_9.out.cell 10 rfl
  go_wp2_with fail
  refine (markFrame Sx1 D1 (1 : Int) x9 x4.heap.size x5.heap.size Ox1_9.out (by have := L1.out; have := Gga.out; have := L2.out; have := L3.out; have := L4.out; have := L5.out; have := L6.out; have := Ggx1.out; have := L7.out; have := L8.out; have := L9.out; omega) (by omega) (by omega)).mono ?_
  rintro e x10 ⟨rfl, _, k10⟩
  clear ca0 ca1 ca2 ca3 ca4 ca5 ca6 ca7 ca8 ca9 ca10
  have L10 : Hid (x9.heap.size ≤ x10.heap.size) := k10.size
  have B10 : Hid (Below w.heap.size w x10) := B9.out.trans (k10.below (by have := L1.out; have := Gga.out; have := L2.out; have := L3.out; have := L4.out; have := L5.out; have := L6.out; have := Ggx1.out; have := L7.out; have := L8.out; have := L9.out; have := L10.out; omega) B9.out.size)
  have KA1_10 : Hid (Blk x10 ga1 47 [.int .i64 D1.kind, .int .i64 D1.id, .slice S1.cn.a S1.cn.n S1.cn.c, .slice S1.sn.a S1.sn.n S1.sn.c, .int .i64 D1.tick, .slice S1.cookie.a S1.cookie.n S1.cookie.c, .slice S1.proof.a S1.proof.n S1.proof.c, .int .i64 D1.epoch, .int .i64 D1.seq, .slice S1.body.a S1.body.n S1.body.c, .slice S1.tag.a S1.tag.n S1.tag.c]) := KA1_9.out.keep (k10.block _ KA1_9.out.lt (by have := L1.out; have := Gga.out; have := L2.out; have := L3.out; have := L4.out; have := L5.out; have := L6.out; have := Ggx1.out; have := L7.out; have := L8.out; have := L9.out; have := L10.out; omega))
  have Ow0r_10 : Hid (SOwn x10 x3.heap.size x4.heap.size Sw0 R0) := Ow0r_9.out.carry k10 (by have := L1.out; have := Gga.out; have := L2.out; have := L3.out; have := L4.out; have := L5.out; have := L6.out; have := Ggx1.out; have := L7.out; have := L8.out; have := L9.out; have := L10.out; omega)
  have Og0r_10 : Hid (SOwn x10 x6.heap.size x7.heap.size Sg0 R0) := Og0r_9.out.carry k10 (by have := L1.out; have := Gga.out; have := L2.out; have := L3.out; have := L4.out; have := L5.out; have := L6.out; have := Ggx1.out; have := L7.out; have := L8.out; have := L9.out; have := L10.out; omega)
  clear k10 B9 KA1_9 Ow0r_9 Ox1_9 Kx1_9 Og0r_9
  have hk0 : ¬ (((1 : Int) + (frSum Sx1 : Int)) < 0) := by omega
  go_wp2_with fail
  refine (eqB Sg0 Sw0 R0 R0 x10 Og0r_10.out.rd Ow0r_10.out.rd (by have := HRS0.out; omega) (by have := HRS0.out; omega)).mono ?_
  rw [decide_eq_true (show R0 = R0 from rfl)]
  rintro e x11 ⟨rfl, b11⟩
  have L11 : Hid (x10.heap.size ≤ x11.heap.size) := b11.size
  have B11 : Hid (Below w.heap.size w x11) := B10.out.trans (b11.mono B10.out.size)
  have KA1_11 : Hid (Blk x11 ga1 47 [.int .i64 D1.kind, .int .i64 D1.id, .slice S1.cn.a S1.cn.n S1.cn.c, .slice S1.sn.a S1.sn.n S1.sn.c, .int .i64 D1.tick, .slice S1.cookie.a S1.cookie.n S1.cookie.c, .slice S1.proof.a S1.proof.n S1.proof.c, .int .i64 D1.epoch, .int .i64 D1.seq, .slice S1.body.a S1.body.n S1.body.c, .slice S1.tag.a S1.tag.n S1.tag.c]) := KA1_10.out.later b11
  have Ow0r_11 : Hid (SOwn x11 x3.heap.size x4.heap.size Sw0 R0) := Ow0r_10.out.later b11
  have Og0r_11 : Hid (SOwn x11 x6.heap.size x7.heap.size Sg0 R0) := Og0r_10.out.later b11
  clear b11 B10 KA1_10 Ow0r_10 Og0r_10
  have hms0 : (Sg0.n : Int) ≤ 1048576 := by have := Og0r_11.out.len; have := HRS0.out; omega
  go_wp2_with fail
  refine (markB Sg0 R0 (1 : Int) x11 x6.heap.size x7.heap.size Og0r_11.out (by have := HRS0.out; omega) (by omega) (by omega)).mono ?_
  rintro e x12 ⟨rfl, og, k12, _⟩
  have L12 : Hid (x11.heap.size ≤ x12.heap.size) := k12.size
  have B12 : Hid (Below w.heap.size w x12) := B11.out.trans (k12.below (by have := L1.out; have := Gga.out; have := L2.out; have := L3.out; have := L4.out; have := L5.out; have := L6.out; have := Ggx1.out; have := L7.out; have := L8.out; have := L9.out; have := L10.out; have := L11.out; have := L12.out; omega) B11.out.size)
  have KA1_12 : Hid (Blk x12 ga1 47 [.int .i64 D1.kind, .int .i64 D1.id, .slice S1.cn.a S1.cn.n S1.cn.c, .slice S1.sn.a S1.sn.n S1.sn.c, .int .i64 D1.tick, .slice S1.cookie.a S1.cookie.n S1.cookie.c, .slice S1.proof.a S1.proof.n S1.proof.c, .int .i64 D1.epoch, .int .i64 D1.seq, .slice S1.body.a S1.body.n S1.body.c, .slice S1.tag.a S1.tag.n S1.tag.c]) := KA1_11.out.keep (k12.block _ KA1_11.out.lt (by have := L1.out; have := Gga.out; have := L2.out; have := L3.out; have := L4.out; have := L5.out; have := L6.out; have := Ggx1.out; have := L7.out; have := L8.out; have := L9.out; have := L10.out; have := L11.out; have := L12.out; omega))
  have Ow0r_12 : Hid (SOwn x12 x3.heap.size x4.heap.size Sw0 R0) := Ow0r_11.out.carry k12 (by have := L1.out; have := Gga.out; have := L2.out; have := L3.out; have := L4.out; have := L5.out; have := L6.out; have := Ggx1.out; have := L7.out; have := L8.out; have := L9.out; have := L10.out; have := L11.out; have := L12.out; omega)
  clear k12 B11 KA1_11 Ow0r_11 Og0r_11
  have Og0r_12 : Hid (SOwn x12 x6.heap.size x7.heap.size Sg0 (marks (1 : Int) Sg0.n)) := og
  clear og
  have hmm : (((1 : Int) + (Sg0.n : Int)) != ((1 : Int) + (Sg0.n : Int))) = false := by simp
  go_wp2_with fail
  refine (heldB Sg0 (1 : Int) x12 Og0r_12.out.rd (by omega) (by omega) (by omega)).mono ?_
  rintro e xz ⟨rfl, rfl⟩
  have hq12_0 : ¬ ((1 : Int) + (Sg0.n : Int) < 0) := by omega
  have c0 := KA1_12.out.cell 0 rfl
  have c1 := KA1_12.out.cell 1 rfl
  have c2 := KA1_12.out.cell 2 rfl
  have c3 := KA1_12.out.cell 3 rfl
  have c4 := KA1_12.out.cell 4 rfl
  have c5 := KA1_12.out.cell 5 rfl
  have c6 := KA1_12.out.cell 6 rfl
  have c7 := KA1_12.out.cell 7 rfl
  have c8 := KA1_12.out.cell 8 rfl
  have c9 := KA1_12.out.cell 9 rfl
  have c10 := KA1_12.out.cell 10 rfl
  go_wp2_with fail
  refine (toFrame S1 D1 x12 (HR1.out.later B12.out) HLL1.out).mono ?_
  rintro e x13 ⟨Sy1, rfl, o, b13⟩
  clear c0 c1 c2 c3 c4 c5 c6 c7 c8 c9 c10
  have L13 : Hid (x12.heap.size ≤ x13.heap.size) := b13.size
  have B13 : Hid (Below w.heap.size w x13) := B12.out.trans (b13.mono B12.out.size)
  have KA1_13 : Hid (Blk x13 ga1 47 [.int .i64 D1.kind, .int .i64 D1.id, .slice S1.cn.a S1.cn.n S1.cn.c, .slice S1.sn.a S1.sn.n S1.sn.c, .int .i64 D1.tick, .slice S1.cookie.a S1.cookie.n S1.cookie.c, .slice S1.proof.a S1.proof.n S1.proof.c, .int .i64 D1.epoch, .int .i64 D1.seq, .slice S1.body.a S1.body.n S1.body.c, .slice S1.tag.a S1.tag.n S1.tag.c]) := KA1_12.out.later b13
  have Ow0r_13 : Hid (SOwn x13 x3.heap.size x4.heap.size Sw0 R0) := Ow0r_12.out.later b13
  have Og0r_13 : Hid (SOwn x13 x6.heap.size x7.heap.size Sg0 (marks (1 : Int) Sg0.n)) := Og0r_12.out.later b13
  clear b13 B12 KA1_12 Ow0r_12 Og0r_12
  have Oy1_13 : Hid (FrOwn x13 x12.heap.size x13.heap.size Sy1 D1) := o
  clear o
  go_wp2_with fail
  refine ((SlI.implTagInput a0 Sy1 D1 x13 Oy1_13.out.rd).mono (fun _ _ h => AnsB.of (tagIn_bytes _ _ HR1.out.sn.bytes HR1.out.body.bytes) h)).mono ?_
  rw [HRD0.out]
  rintro e x14 ⟨Sh0, rfl, o0, b⟩
  have L14 : Hid (x13.heap.size ≤ x14.heap.size) := b.size
  have B14 : Hid (Below w.heap.size w x14) := B13.out.trans (b.mono B13.out.size)
  have KA1_14 : Hid (Blk x14 ga1 47 [.int .i64 D1.kind, .int .i64 D1.id, .slice S1.cn.a S1.cn.n S1.cn.c, .slice S1.sn.a S1.sn.n S1.sn.c, .int .i64 D1.tick, .slice S1.cookie.a S1.cookie.n S1.cookie.c, .slice S1.proof.a S1.proof.n S1.proof.c, .int .i64 D1.epoch, .int .i64 D1.seq, .slice S1.body.a S1.body.n S1.body.c, .slice S1.tag.a S1.tag.n S1.tag.c]) := KA1_13.out.later b
  have Ow0r_14 : Hid (SOwn x14 x3.heap.size x4.heap.size Sw0 R0) := Ow0r_13.out.later b
  have Og0r_14 : Hid (SOwn x14 x6.heap.size x7.heap.size Sg0 (marks (1 : Int) Sg0.n)) := Og0r_13.out.later b
  have Oy1_14 : Hid (FrOwn x14 x12.heap.size x13.heap.size Sy1 D1) := Oy1_13.out.later b
  clear b B13 KA1_13 Ow0r_13 Og0r_13 Oy1_13
  have Oh0r_14 : Hid (SOwn x14 x13.heap.size x14.heap.size Sh0 R0) := o0
  clear o0
  go_upto_region 25 with fail
  clear Oy1_14
  go_wp2_with fail
  refine (eqB Sh0 Sw0 R0 R0 x14 Oh0r_14.out.rd Ow0r_14.out.rd (by have := HRS0.out; omega) (by have := HRS0.out; omega)).mono ?_
  rw [decide_eq_true (show R0 = R0 from rfl)]
  rintro e x15 ⟨rfl, b15⟩
  have L15 : Hid (x14.heap.size ≤ x15.heap.size) := b15.size
  have B15 : Hid (Below w.heap.size w x15) := B14.out.trans (b15.mono B14.out.size)
  have KA1_15 : Hid (Blk x15 ga1 47 [.int .i64 D1.kind, .int .i64 D1.id, .slice S1.cn.a S1.cn.n S1.cn.c, .slice S1.sn.a S1.sn.n S1.sn.c, .int .i64 D1.tick, .slice S1.cookie.a S1.cookie.n S1.cookie.c, .slice S1.proof.a S1.proof.n S1.proof.c, .int .i64 D1.epoch, .int .i64 D1.seq, .slice S1.body.a S1.body.n S1.body.c, .slice S1.tag.a S1.tag.n S1.tag.c]) := KA1_14.out.later b15
  have Ow0r_15 : Hid (SOwn x15 x3.heap.size x4.heap.size Sw0 R0) := Ow0r_14.out.later b15
  have Og0r_15 : Hid (SOwn x15 x6.heap.size x7.heap.size Sg0 (marks (1 : Int) Sg0.n)) := Og0r_14.out.later b15
  have Oh0r_15 : Hid (SOwn x15 x13.heap.size x14.heap.size Sh0 R0) := Oh0r_14.out.later b15
  clear b15 B14 KA1_14 Ow0r_14 Og0r_14 Oh0r_14
  go_wp2_with fail
  refine (heldB Sg0 (1 : Int) x15 Og0r_15.out.rd (by omega) (by omega) (by omega)).mono ?_
  rintro e xz ⟨rfl, rfl⟩
  have hq15_0 : ¬ ((1 : Int) + (Sg0.n : Int) < 0) := by omega
  go_wp2
  go_ret
  exact ⟨rfl, B15.out⟩
end Go.Proofs.Ytmcflfpckpjphaa.LawTagInput
