/-
  What impl's Judge answers.
  What spec lays as a head, and as what a tag is of.
  What spec's BlockOf, Stream and Mix answer.
  What spec opens.
-/
import Derived.Test.YtpgapjdejelajaaGreatDoorGr14
import Derived.Test.YtpgapjdejelajaaGreatDoorGr13
import Derived.Test.YtpgapjdejelajaaGreatDoorGr10
import Derived.Test.YtpgapjdejelajaaGreatDoorGr16
import Derived.Test.YtpgapjdejelajaaGreatDoorGr15
import Derived.Test.YtpgapjdejelajaaGreatDoorGr9
import Derived.Test.YtpgapjdejelajaaGreatDoorGr12
import Derived.Test.YtpgapjdejelajaaGreatDoorGr4
import Derived.Test.YtpgapjdejelajaaGreatDoorGr2
import Derived.Test.YtpgapjdejelajaaGreatDoorGr7
import Derived.Test.YtpgapjdejelajaaGreatDoorGr8
import Derived.Test.YtpgapjdejelajaaGreatDoorGr3
set_option linter.unusedVariables false
namespace Go.Proofs.YtpgapjdejelajaaGreatDoor.CkV
open Go.RowKit Go.Proofs.YtpgapjdejelajaaGreatDoor.Mem Go.Proofs.YtpgapjdejelajaaGreatDoor.App Go.Proofs.YtpgapjdejelajaaGreatDoor.Blk Go.Proofs.YtpgapjdejelajaaGreatDoor.Words Go.Proofs.YtpgapjdejelajaaGreatDoor.Zone Go.Proofs.YtpgapjdejelajaaGreatDoor.Res Go.Proofs.YtpgapjdejelajaaGreatDoor.AddrP Go.Proofs.YtpgapjdejelajaaGreatDoor.AddrS Go.Proofs.YtpgapjdejelajaaGreatDoor.JaZ Go.Proofs.YtpgapjdejelajaaGreatDoor.JaL Go.Proofs.YtpgapjdejelajaaGreatDoor.CkP Go.Proofs.YtpgapjdejelajaaGreatDoor.Shp Go.Proofs.YtpgapjdejelajaaGreatDoor.CkQ Go.Proofs.YtpgapjdejelajaaGreatDoor.MacP Go.Proofs.YtpgapjdejelajaaGreatDoor.KdfP Go.Proofs.YtpgapjdejelajaaGreatDoor.Str Go.Proofs.YtpgapjdejelajaaGreatDoor.FrZ Go.Proofs.YtpgapjdejelajaaGreatDoor.FrL Go.Proofs.YtpgapjdejelajaaGreatDoor.FrP Go.Proofs.YtpgapjdejelajaaGreatDoor.DiffP Go.Proofs.YtpgapjdejelajaaGreatDoor.Each Go.Proofs.YtpgapjdejelajaaGreatDoor.Copy Go.Proofs.YtpgapjdejelajaaGreatDoor.Ops Go.Proofs.YtpgapjdejelajaaGreatDoor.Comp

set_option maxRecDepth 100000 in
set_option maxHeartbeats 8000000 in
theorem canJudge (S : JaS) (D : JaD) (now h p : Int) (SF : FrS) (F : FrD) (w : World) (hj : JaRd w S D) (hf : FrRd w SF F) :
    Calls Tryz.prog 46 #[jaV D S, .int .i64 now, addrV h p, frV F SF] w fun e w' => e = .returned (.bool (judgeF D now h p F)) ∧ Below w.heap.size w w' := by
  have HJ : Hid (JaRd w S D) := hj
  have HF : Hid (FrRd w SF F) := hf
  obtain ⟨C, hC⟩ : ∃ C, judgeF D now h p F = C := ⟨_, rfl⟩
  have HCD : Hid (judgeF D now h p F = C) := hC
  rw [hC]
  clear hj hf hC
  obtain ⟨x1, hx1⟩ : ∃ zz, ((w.alloc (.cells #[.slice S.secret.a S.secret.n S.secret.c] 25)).alloc (.cells #[.int .i64 h, .int .i64 p] 27)).alloc (.cells #[.int .i64 F.kind, .int .i64 F.id, .slice SF.cn.a SF.cn.n SF.cn.c, .slice SF.sn.a SF.sn.n SF.sn.c, .int .i64 F.tick, .slice SF.cookie.a SF.cookie.n SF.cookie.c, .slice SF.proof.a SF.proof.n SF.proof.c, .int .i64 F.epoch, .int .i64 F.seq, .slice SF.body.a SF.body.n SF.body.c, .slice SF.tag.a SF.tag.n SF.tag.c] 35) = zz := ⟨_, rfl⟩
  have HWA : Hid (((w.alloc (.cells #[.slice S.secret.a S.secret.n S.secret.c] 25)).alloc (.cells #[.int .i64 h, .int .i64 p] 27)).alloc (.cells #[.int .i64 F.kind, .int .i64 F.id, .slice SF.cn.a SF.cn.n SF.cn.c, .slice SF.sn.a SF.sn.n SF.sn.c, .int .i64 F.tick, .slice SF.cookie.a SF.cookie.n SF.cookie.c, .slice SF.proof.a SF.proof.n SF.proof.c, .int .i64 F.epoch, .int .i64 F.seq, .slice SF.body.a SF.body.n SF.body.c, .slice SF.tag.a SF.tag.n SF.tag.c] 35) = x1) := hx1
  have b1 : Below w.heap.size w x1 := by rw [← hx1]; exact ((((Below.refl _ _).alloc (Nat.le_refl _) _).alloc (by simp) _).alloc (by simp; omega) _)
  have KJN : Blk x1 (w.heap.size) 25 [.slice S.secret.a S.secret.n S.secret.c] := by
    have q := (Blk.new (w) 25 [.slice S.secret.a S.secret.n S.secret.c])
    skip
    rw [← hx1]; exact (q.alloc _).alloc _
  have KAN : Blk x1 (w.heap.size + 1) 27 [.int .i64 h, .int .i64 p] := by
    have q := (Blk.new ((w.alloc (.cells #[.slice S.secret.a S.secret.n S.secret.c] 25))) 27 [.int .i64 h, .int .i64 p])
    rw [World.size_alloc] at q
    rw [← hx1]; exact q.alloc _
  have KFN : Blk x1 (w.heap.size + 1 + 1) 35 [.int .i64 F.kind, .int .i64 F.id, .slice SF.cn.a SF.cn.n SF.cn.c, .slice SF.sn.a SF.sn.n SF.sn.c, .int .i64 F.tick, .slice SF.cookie.a SF.cookie.n SF.cookie.c, .slice SF.proof.a SF.proof.n SF.proof.c, .int .i64 F.epoch, .int .i64 F.seq, .slice SF.body.a SF.body.n SF.body.c, .slice SF.tag.a SF.tag.n SF.tag.c] := by
    have q := (Blk.new (((w.alloc (.cells #[.slice S.secret.a S.secret.n S.secret.c] 25)).alloc (.cells #[.int .i64 h, .int .i64 p] 27))) 35 [.int .i64 F.kind, .int .i64 F.id, .slice SF.cn.a SF.cn.n SF.cn.c, .slice SF.sn.a SF.sn.n SF.sn.c, .int .i64 F.tick, .slice SF.cookie.a SF.cookie.n SF.cookie.c, .slice SF.proof.a SF.proof.n SF.proof.c, .int .i64 F.epoch, .int .i64 F.seq, .slice SF.body.a SF.body.n SF.body.c, .slice SF.tag.a SF.tag.n SF.tag.c])
    rw [World.size_alloc, World.size_alloc] at q
    rw [← hx1]; exact q
  have SZA : x1.heap.size = w.heap.size + 3 := by rw [← hx1]; simp
  clear hx1
  have L1 : Hid (w.heap.size ≤ x1.heap.size) := b1.size
  have B1 : Hid (Below w.heap.size w x1) := b1
  clear b1
  unfold jaV addrV frV
  go_enter Tryz.func46, Tryz.ntmps46
  go_upto_region 1 with fail
  rw [HWA.out]
  obtain ⟨gj, hgj⟩ : ∃ g, w.heap.size = g := ⟨_, rfl⟩
  obtain ⟨ga, hga⟩ : ∃ g, w.heap.size + 1 = g := ⟨_, rfl⟩
  obtain ⟨gf, hgf⟩ : ∃ g, w.heap.size + 1 + 1 = g := ⟨_, rfl⟩
  have GA : Hid (w.heap.size = gj ∧ gj + 1 = ga ∧ ga + 1 = gf ∧ x1.heap.size = gj + 3) := ⟨hgj, by omega, by omega, by omega⟩
  rw [hgj] at KJN
  rw [hga] at KAN
  rw [hgf] at KFN
  rw [hgf, hga, hgj]
  clear HWA SZA hgj hga hgf
  have KJ1 : Hid (Blk x1 gj 25 [.slice S.secret.a S.secret.n S.secret.c]) := KJN
  have KA1 : Hid (Blk x1 ga 27 [.int .i64 h, .int .i64 p]) := KAN
  have KF1 : Hid (Blk x1 gf 35 [.int .i64 F.kind, .int .i64 F.id, .slice SF.cn.a SF.cn.n SF.cn.c, .slice SF.sn.a SF.sn.n SF.sn.c, .int .i64 F.tick, .slice SF.cookie.a SF.cookie.n SF.cookie.c, .slice SF.proof.a SF.proof.n SF.proof.c, .int .i64 F.epoch, .int .i64 F.seq, .slice SF.body.a SF.body.n SF.body.c, .slice SF.tag.a SF.tag.n SF.tag.c]) := KFN
  clear KJN KAN KFN
  have d0 := KJ1.out.cell 0 rfl
  have e0 := KA1.out.cell 0 rfl
  have e1 := KA1.out.cell 1 rfl
  have f0 := KF1.out.cell 0 rfl
  have f1 := KF1.out.cell 1 rfl
  have f2 := KF1.out.cell 2 rfl
  have f3 := KF1.out.cell 3 rfl
  have f4 := KF1.out.cell 4 rfl
  have f5 := KF1.out.cell 5 rfl
  have f6 := KF1.out.cell 6 rfl
  have f7 := KF1.out.cell 7 rfl
  have f8 := KF1.out.cell 8 rfl
  have f9 := KF1.out.cell 9 rfl
  have f10 := KF1.out.cell 10 rfl
  go_wp2_with fail
  refine (CkI.implJarOk S D x1 (HJ.out.later B1.out)).mono ?_
  rintro e x2 ⟨rfl, b⟩
  have L2 : Hid (x1.heap.size ≤ x2.heap.size) := b.size
  have B2 : Hid (Below w.heap.size w x2) := B1.out.trans (b.mono B1.out.size)
  have KJ2 : Hid (Blk x2 gj 25 [.slice S.secret.a S.secret.n S.secret.c]) := KJ1.out.later b
  have KA2 : Hid (Blk x2 ga 27 [.int .i64 h, .int .i64 p]) := KA1.out.later b
  have KF2 : Hid (Blk x2 gf 35 [.int .i64 F.kind, .int .i64 F.id, .slice SF.cn.a SF.cn.n SF.cn.c, .slice SF.sn.a SF.sn.n SF.sn.c, .int .i64 F.tick, .slice SF.cookie.a SF.cookie.n SF.cookie.c, .slice SF.proof.a SF.proof.n SF.proof.c, .int .i64 F.epoch, .int .i64 F.seq, .slice SF.body.a SF.body.n SF.body.c, .slice SF.tag.a SF.tag.n SF.tag.c]) := KF1.out.later b
  clear b B1 KJ1 KA1 KF1
  clear d0
  clear e0 e1
  clear f0 f1 f2 f3 f4 f5 f6 f7 f8 f9 f10
  cases h0 : (jarOk D) with
  | false =>
    obtain rfl : C = false := by rw [← HCD.out]; unfold judgeF; simp [h0]
    go_wp2
    go_ret
    exact ⟨rfl, B2.out⟩
  | true =>
    have d0 := KJ2.out.cell 0 rfl
    have e0 := KA2.out.cell 0 rfl
    have e1 := KA2.out.cell 1 rfl
    have f0 := KF2.out.cell 0 rfl
    have f1 := KF2.out.cell 1 rfl
    have f2 := KF2.out.cell 2 rfl
    have f3 := KF2.out.cell 3 rfl
    have f4 := KF2.out.cell 4 rfl
    have f5 := KF2.out.cell 5 rfl
    have f6 := KF2.out.cell 6 rfl
    have f7 := KF2.out.cell 7 rfl
    have f8 := KF2.out.cell 8 rfl
    have f9 := KF2.out.cell 9 rfl
    have f10 := KF2.out.cell 10 rfl
    go_wp2_with fail
    refine (FrW.isTime now x2).mono ?_
    rintro e y ⟨rfl, rfl⟩
    clear d0
    clear e0 e1
    clear f0 f1 f2 f3 f4 f5 f6 f7 f8 f9 f10
    cases h1 : (isIn now 0 1000000) with
    | false =>
      obtain rfl : C = false := by rw [← HCD.out]; unfold judgeF; simp [h0, h1]
      go_wp2
      go_ret
      exact ⟨rfl, B2.out⟩
    | true =>
      have d0 := KJ2.out.cell 0 rfl
      have e0 := KA2.out.cell 0 rfl
      have e1 := KA2.out.cell 1 rfl
      have f0 := KF2.out.cell 0 rfl
      have f1 := KF2.out.cell 1 rfl
      have f2 := KF2.out.cell 2 rfl
      have f3 := KF2.out.cell 3 rfl
      have f4 := KF2.out.cell 4 rfl
      have f5 := KF2.out.cell 5 rfl
      have f6 := KF2.out.cell 6 rfl
      have f7 := KF2.out.cell 7 rfl
      have f8 := KF2.out.cell 8 rfl
      have f9 := KF2.out.cell 9 rfl
      have f10 := KF2.out.cell 10 rfl
      go_wp2_with fail
      refine (AddrI.implAddrOk h p x2).mono ?_
      rintro e x3 ⟨rfl, b⟩
      have L3 : Hid (x2.heap.size ≤ x3.heap.size) := b.size
      have B3 : Hid (Below w.heap.size w x3) := B2.out.trans (b.mono B2.out.size)
      have KJ3 : Hid (Blk x3 gj 25 [.slice S.secret.a S.secret.n S.secret.c]) := KJ2.out.later b
      have KA3 : Hid (Blk x3 ga 27 [.int .i64 h, .int .i64 p]) := KA2.out.later b
      have KF3 : Hid (Blk x3 gf 35 [.int .i64 F.kind, .int .i64 F.id, .slice SF.cn.a SF.cn.n SF.cn.c, .slice SF.sn.a SF.sn.n SF.sn.c, .int .i64 F.tick, .slice SF.cookie.a SF.cookie.n SF.cookie.c, .slice SF.proof.a SF.proof.n SF.proof.c, .int .i64 F.epoch, .int .i64 F.seq, .slice SF.body.a SF.body.n SF.body.c, .slice SF.tag.a SF.tag.n SF.tag.c]) := KF2.out.later b
      clear b B2 KJ2 KA2 KF2
      clear d0
      clear e0 e1
      clear f0 f1 f2 f3 f4 f5 f6 f7 f8 f9 f10
      cases h2 : (addrOk h p) with
      | false =>
        obtain rfl : C = false := by rw [← HCD.out]; unfold judgeF; simp [h0, h1, h2]
        go_wp2
        go_ret
        exact ⟨rfl, B3.out⟩
      | true =>
        cases h3 : (F.kind == 3) with
        | false =>
          have f0 := KF3.out.cell 0 rfl
          have f1 := KF3.out.cell 1 rfl
          have f2 := KF3.out.cell 2 rfl
          have f3 := KF3.out.cell 3 rfl
          have f4 := KF3.out.cell 4 rfl
          have f5 := KF3.out.cell 5 rfl
          have f6 := KF3.out.cell 6 rfl
          have f7 := KF3.out.cell 7 rfl
          have f8 := KF3.out.cell 8 rfl
          have f9 := KF3.out.cell 9 rfl
          have f10 := KF3.out.cell 10 rfl
          obtain rfl : C = false := by rw [← HCD.out]; unfold judgeF; simp [h0, h1, h2, h3]
          go_wp2
          go_ret
          exact ⟨rfl, B3.out⟩
        | true =>
          have d0 := KJ3.out.cell 0 rfl
          have e0 := KA3.out.cell 0 rfl
          have e1 := KA3.out.cell 1 rfl
          have f0 := KF3.out.cell 0 rfl
          have f1 := KF3.out.cell 1 rfl
          have f2 := KF3.out.cell 2 rfl
          have f3 := KF3.out.cell 3 rfl
          have f4 := KF3.out.cell 4 rfl
          have f5 := KF3.out.cell 5 rfl
          have f6 := KF3.out.cell 6 rfl
          have f7 := KF3.out.cell 7 rfl
          have f8 := KF3.out.cell 8 rfl
          have f9 := KF3.out.cell 9 rfl
          have f10 := KF3.out.cell 10 rfl
          go_wp2_with fail
          refine (FrO2.implFrameOk SF F x3 (HF.out.later B3.out)).mono ?_
          rintro e x4 ⟨rfl, b⟩
          have L4 : Hid (x3.heap.size ≤ x4.heap.size) := b.size
          have B4 : Hid (Below w.heap.size w x4) := B3.out.trans (b.mono B3.out.size)
          have KJ4 : Hid (Blk x4 gj 25 [.slice S.secret.a S.secret.n S.secret.c]) := KJ3.out.later b
          have KA4 : Hid (Blk x4 ga 27 [.int .i64 h, .int .i64 p]) := KA3.out.later b
          have KF4 : Hid (Blk x4 gf 35 [.int .i64 F.kind, .int .i64 F.id, .slice SF.cn.a SF.cn.n SF.cn.c, .slice SF.sn.a SF.sn.n SF.sn.c, .int .i64 F.tick, .slice SF.cookie.a SF.cookie.n SF.cookie.c, .slice SF.proof.a SF.proof.n SF.proof.c, .int .i64 F.epoch, .int .i64 F.seq, .slice SF.body.a SF.body.n SF.body.c, .slice SF.tag.a SF.tag.n SF.tag.c]) := KF3.out.later b
          clear b B3 KJ3 KA3 KF3
          clear d0
          clear e0 e1
          clear f0 f1 f2 f3 f4 f5 f6 f7 f8 f9 f10
          obtain rfl : C = frameOk F := by rw [← HCD.out]; unfold judgeF; simp [h0, h1, h2, h3]
          go_wp2
          go_ret
          exact ⟨rfl, B4.out⟩

set_option maxRecDepth 100000 in
set_option maxHeartbeats 8000000 in
theorem implJudge (S : JaS) (D : JaD) (now h p : Int) (SF : FrS) (F : FrD) (w : World) (hT : Tab w) (hj : JaRd w S D) (hf : FrRd w SF F) :
    Calls Tryz.prog 15 #[jaV D S, .int .i64 now, addrV h p, frV F SF] w fun e w' => e = .returned (.int .i64 (judgeC D now h p F)) ∧ Below w.heap.size w w' := by
  have HJ : Hid (JaRd w S D) := hj
  have HF : Hid (FrRd w SF F) := hf
  obtain ⟨C, hC⟩ : ∃ C, judgeC D now h p F = C := ⟨_, rfl⟩
  have HCD : Hid (judgeC D now h p F = C) := hC
  rw [hC]
  clear hj hf hC
  have HT : Hid (Tab w) := hT
  clear hT
  obtain ⟨x1, hx1⟩ : ∃ zz, ((w.alloc (.cells #[.slice S.secret.a S.secret.n S.secret.c] 25)).alloc (.cells #[.int .i64 h, .int .i64 p] 27)).alloc (.cells #[.int .i64 F.kind, .int .i64 F.id, .slice SF.cn.a SF.cn.n SF.cn.c, .slice SF.sn.a SF.sn.n SF.sn.c, .int .i64 F.tick, .slice SF.cookie.a SF.cookie.n SF.cookie.c, .slice SF.proof.a SF.proof.n SF.proof.c, .int .i64 F.epoch, .int .i64 F.seq, .slice SF.body.a SF.body.n SF.body.c, .slice SF.tag.a SF.tag.n SF.tag.c] 35) = zz := ⟨_, rfl⟩
  have HWA : Hid (((w.alloc (.cells #[.slice S.secret.a S.secret.n S.secret.c] 25)).alloc (.cells #[.int .i64 h, .int .i64 p] 27)).alloc (.cells #[.int .i64 F.kind, .int .i64 F.id, .slice SF.cn.a SF.cn.n SF.cn.c, .slice SF.sn.a SF.sn.n SF.sn.c, .int .i64 F.tick, .slice SF.cookie.a SF.cookie.n SF.cookie.c, .slice SF.proof.a SF.proof.n SF.proof.c, .int .i64 F.epoch, .int .i64 F.seq, .slice SF.body.a SF.body.n SF.body.c, .slice SF.tag.a SF.tag.n SF.tag.c] 35) = x1) := hx1
  have b1 : Below w.heap.size w x1 := by rw [← hx1]; exact ((((Below.refl _ _).alloc (Nat.le_refl _) _).alloc (by simp) _).alloc (by simp; omega) _)
  have KJN : Blk x1 (w.heap.size) 25 [.slice S.secret.a S.secret.n S.secret.c] := by
    have q := (Blk.new (w) 25 [.slice S.secret.a S.secret.n S.secret.c])
    skip
    rw [← hx1]; exact (q.alloc _).alloc _
  have KAN : Blk x1 (w.heap.size + 1) 27 [.int .i64 h, .int .i64 p] := by
    have q := (Blk.new ((w.alloc (.cells #[.slice S.secret.a S.secret.n S.secret.c] 25))) 27 [.int .i64 h, .int .i64 p])
    rw [World.size_alloc] at q
    rw [← hx1]; exact q.alloc _
  have KFN : Blk x1 (w.heap.size + 1 + 1) 35 [.int .i64 F.kind, .int .i64 F.id, .slice SF.cn.a SF.cn.n SF.cn.c, .slice SF.sn.a SF.sn.n SF.sn.c, .int .i64 F.tick, .slice SF.cookie.a SF.cookie.n SF.cookie.c, .slice SF.proof.a SF.proof.n SF.proof.c, .int .i64 F.epoch, .int .i64 F.seq, .slice SF.body.a SF.body.n SF.body.c, .slice SF.tag.a SF.tag.n SF.tag.c] := by
    have q := (Blk.new (((w.alloc (.cells #[.slice S.secret.a S.secret.n S.secret.c] 25)).alloc (.cells #[.int .i64 h, .int .i64 p] 27))) 35 [.int .i64 F.kind, .int .i64 F.id, .slice SF.cn.a SF.cn.n SF.cn.c, .slice SF.sn.a SF.sn.n SF.sn.c, .int .i64 F.tick, .slice SF.cookie.a SF.cookie.n SF.cookie.c, .slice SF.proof.a SF.proof.n SF.proof.c, .int .i64 F.epoch, .int .i64 F.seq, .slice SF.body.a SF.body.n SF.body.c, .slice SF.tag.a SF.tag.n SF.tag.c])
    rw [World.size_alloc, World.size_alloc] at q
    rw [← hx1]; exact q
  have SZA : x1.heap.size = w.heap.size + 3 := by rw [← hx1]; simp
  clear hx1
  have L1 : Hid (w.heap.size ≤ x1.heap.size) := b1.size
  have B1 : Hid (Below w.heap.size w x1) := b1
  clear b1
  unfold jaV addrV frV
  go_enter Tryz.func15, Tryz.ntmps15
  go_upto_region 1 with fail
  rw [HWA.out]
  obtain ⟨gj, hgj⟩ : ∃ g, w.heap.size = g := ⟨_, rfl⟩
  obtain ⟨ga, hga⟩ : ∃ g, w.heap.size + 1 = g := ⟨_, rfl⟩
  obtain ⟨gf, hgf⟩ : ∃ g, w.heap.size + 1 + 1 = g := ⟨_, rfl⟩
  have GA : Hid (w.heap.size = gj ∧ gj + 1 = ga ∧ ga + 1 = gf ∧ x1.heap.size = gj + 3) := ⟨hgj, by omega, by omega, by omega⟩
  rw [hgj] at KJN
  rw [hga] at KAN
  rw [hgf] at KFN
  rw [hgf, hga, hgj]
  clear HWA SZA hgj hga hgf
  have KJ1 : Hid (Blk x1 gj 25 [.slice S.secret.a S.secret.n S.secret.c]) := KJN
  have KA1 : Hid (Blk x1 ga 27 [.int .i64 h, .int .i64 p]) := KAN
  have KF1 : Hid (Blk x1 gf 35 [.int .i64 F.kind, .int .i64 F.id, .slice SF.cn.a SF.cn.n SF.cn.c, .slice SF.sn.a SF.sn.n SF.sn.c, .int .i64 F.tick, .slice SF.cookie.a SF.cookie.n SF.cookie.c, .slice SF.proof.a SF.proof.n SF.proof.c, .int .i64 F.epoch, .int .i64 F.seq, .slice SF.body.a SF.body.n SF.body.c, .slice SF.tag.a SF.tag.n SF.tag.c]) := KFN
  clear KJN KAN KFN
  have d0 := KJ1.out.cell 0 rfl
  have e0 := KA1.out.cell 0 rfl
  have e1 := KA1.out.cell 1 rfl
  have f0 := KF1.out.cell 0 rfl
  have f1 := KF1.out.cell 1 rfl
  have f2 := KF1.out.cell 2 rfl
  have f3 := KF1.out.cell 3 rfl
  have f4 := KF1.out.cell 4 rfl
  have f5 := KF1.out.cell 5 rfl
  have f6 := KF1.out.cell 6 rfl
  have f7 := KF1.out.cell 7 rfl
  have f8 := KF1.out.cell 8 rfl
  have f9 := KF1.out.cell 9 rfl
  have f10 := KF1.out.cell 10 rfl
  go_wp2_with fail
  refine (canJudge S D now h p SF F x1 (HJ.out.later B1.out) (HF.out.later B1.out)).mono ?_
  rintro e x2 ⟨rfl, b⟩
  have L2 : Hid (x1.heap.size ≤ x2.heap.size) := b.size
  have B2 : Hid (Below w.heap.size w x2) := B1.out.trans (b.mono B1.out.size)
  have KJ2 : Hid (Blk x2 gj 25 [.slice S.secret.a S.secret.n S.secret.c]) := KJ1.out.later b
  have KA2 : Hid (Blk x2 ga 27 [.int .i64 h, .int .i64 p]) := KA1.out.later b
  have KF2 : Hid (Blk x2 gf 35 [.int .i64 F.kind, .int .i64 F.id, .slice SF.cn.a SF.cn.n SF.cn.c, .slice SF.sn.a SF.sn.n SF.sn.c, .int .i64 F.tick, .slice SF.cookie.a SF.cookie.n SF.cookie.c, .slice SF.proof.a SF.proof.n SF.proof.c, .int .i64 F.epoch, .int .i64 F.seq, .slice SF.body.a SF.body.n SF.body.c, .slice SF.tag.a SF.tag.n SF.tag.c]) := KF1.out.later b
  clear b B1 KJ1 KA1 KF1
  clear d0
  clear e0 e1
  clear f0 f1 f2 f3 f4 f5 f6 f7 f8 f9 f10
  cases h0 : (judgeF D now h p F) with
  | false =>
    obtain rfl : C = 1 := by rw [← HCD.out]; exact judge_1 h0
    go_wp2
    go_ret
    exact ⟨rfl, B2.out⟩
  | true =>
    have HY : Hid (judgeF D now h p F = true) := h0
    have HLN : Hid (F.cookie.length ≤ 16) := (FrB.ok_lens F (by unfold judgeF at h0; simp only [Bool.and_eq_true] at h0; exact h0.1.2)).2.2.1
    clear h0
    have d0 := KJ2.out.cell 0 rfl
    have e0 := KA2.out.cell 0 rfl
    have e1 := KA2.out.cell 1 rfl
    have f0 := KF2.out.cell 0 rfl
    have f1 := KF2.out.cell 1 rfl
    have f2 := KF2.out.cell 2 rfl
    have f3 := KF2.out.cell 3 rfl
    have f4 := KF2.out.cell 4 rfl
    have f5 := KF2.out.cell 5 rfl
    have f6 := KF2.out.cell 6 rfl
    have f7 := KF2.out.cell 7 rfl
    have f8 := KF2.out.cell 8 rfl
    have f9 := KF2.out.cell 9 rfl
    have f10 := KF2.out.cell 10 rfl
    go_wp2_with fail
    refine (CkI.implFresh now F.tick x2).mono ?_
    rintro e y ⟨rfl, rfl⟩
    clear d0
    clear e0 e1
    clear f0 f1 f2 f3 f4 f5 f6 f7 f8 f9 f10
    cases h5 : freshB now F.tick with
    | false =>
      obtain rfl : C = 9 := by rw [← HCD.out]; exact judge_9 HY.out h5
      go_wp2
      go_ret
      exact ⟨rfl, B2.out⟩
    | true =>
      obtain ⟨vv, hvv⟩ : ∃ v, sameI F.cookie (mint D h p F.id F.cn F.sn F.tick) = v := ⟨_, rfl⟩
      have HSV : Hid (sameI F.cookie (mint D h p F.id F.cn F.sn F.tick) = vv) := hvv
      clear hvv
      go_upto_region 5 with fail
      go_cut [22] from 23 to 37 (fun sv wx => sv = .bool (!vv) ∧ Below x2.heap.size x2 wx)
      case first =>
        rename_i J K' hRJ hMet
        generalize hA : Act.mk _ _ = A
        have a4' : A.eval (.tmp 4) = .pointer (some ⟨gj, 0, none⟩) := by rw [← hA]; rfl
        have a6' : A.eval (.tmp 6) = .pointer (some ⟨ga, 0, none⟩) := by rw [← hA]; rfl
        have a7' : A.eval (.tmp 7) = .pointer (some ⟨gf, 0, none⟩) := by rw [← hA]; rfl
        have asz : A.tmps.size = 38 := by rw [← hA]; rfl
        have hKJ : ∀ wx, Below x2.heap.size x2 wx → Blk wx gj 25 [.slice S.secret.a S.secret.n S.secret.c] := fun wx hb => KJ2.out.later hb
        have hKA : ∀ wx, Below x2.heap.size x2 wx → Blk wx ga 27 [.int .i64 h, .int .i64 p] := fun wx hb => KA2.out.later hb
        have hKF : ∀ wx, Below x2.heap.size x2 wx → Blk wx gf 35 [.int .i64 F.kind, .int .i64 F.id, .slice SF.cn.a SF.cn.n SF.cn.c, .slice SF.sn.a SF.sn.n SF.sn.c, .int .i64 F.tick, .slice SF.cookie.a SF.cookie.n SF.cookie.c, .slice SF.proof.a SF.proof.n SF.proof.c, .int .i64 F.epoch, .int .i64 F.seq, .slice SF.body.a SF.body.n SF.body.c, .slice SF.tag.a SF.tag.n SF.tag.c] := fun wx hb => KF2.out.later hb
        have hWB : ∀ wx, Below x2.heap.size x2 wx → Below w.heap.size w wx := fun wx hb => B2.out.trans (hb.mono B2.out.size)
        have hTT : ∀ wx, Below x2.heap.size x2 wx → Tab wx := fun wx hb => HT.out.later (hWB wx hb)
        refine region_each (by kernel_rfl) [23, 24, 25, 26, 27, 28, 29, 30, 31, 32, 33, 34, 35, 36, 37] 15 (fun i => [23, 24, 25, 26, 27, 28, 29, 30, 31, 32, 33, 34, 35, 36, 37].getD i 0) (fun _ => 0)
          (fun i gB v wx => match i with
            | 0 => v = .pointer (some ⟨gf, 5, none⟩)
            | 1 => v = .slice SF.cookie.a SF.cookie.n SF.cookie.c
            | 2 => v = .agg #[.slice S.secret.a S.secret.n S.secret.c]
            | 3 => v = .agg #[.int .i64 h, .int .i64 p]
            | 4 => v = .pointer (some ⟨gf, 1, none⟩)
            | 5 => v = .int .i64 F.id
            | 6 => v = .pointer (some ⟨gf, 2, none⟩)
            | 7 => v = .slice SF.cn.a SF.cn.n SF.cn.c
            | 8 => v = .pointer (some ⟨gf, 3, none⟩)
            | 9 => v = .slice SF.sn.a SF.sn.n SF.sn.c
            | 10 => v = .pointer (some ⟨gf, 4, none⟩)
            | 11 => v = .int .i64 F.tick
            | 12 => ∃ T, v = .slice T.a T.n T.c ∧ SRd wx T (mint D h p F.id F.cn F.sn F.tick)
            | 13 => v = .bool vv
            | 14 => v = .bool (!vv)
            | _ => False) (fun wx => Below x2.heap.size x2 wx) (by kernel_rfl) (Below.refl _ _).drew ?_ ?_ ?_
        · intro i gB v wx wy hi hF hb _
          match i, hi with
          | 0, _ => exact hF
          | 1, _ => exact hF
          | 2, _ => exact hF
          | 3, _ => exact hF
          | 4, _ => exact hF
          | 5, _ => exact hF
          | 6, _ => exact hF
          | 7, _ => exact hF
          | 8, _ => exact hF
          | 9, _ => exact hF
          | 10, _ => exact hF
          | 11, _ => exact hF
          | 12, _ => obtain ⟨T, h0, h1⟩ := hF; exact ⟨T, h0, h1.later hb⟩
          | 13, _ => exact hF
          | 14, _ => exact hF
        · intro i hi t ρ wx hB hp hd
          match i, hi with
          | 0, _ =>
            have e7 : (fr [23, 24, 25, 26, 27, 28, 29, 30, 31, 32, 33, 34, 35, 36, 37] A t).eval (.tmp 7) = .pointer (some ⟨gf, 0, none⟩) := (fr_eval_old _ _ _ 7 rfl).trans a7'
            refine op_run (v := .pointer (some ⟨gf, 5, none⟩)) (w' := wx) rfl rfl ?_ ?_
            · clear hp hd; have ec : ∀ v, (fr [23, 24, 25, 26, 27, 28, 29, 30, 31, 32, 33, 34, 35, 36, 37] A t).eval (.const v) = v := fun _ => rfl; generalize (fr [23, 24, 25, 26, 27, 28, 29, 30, 31, 32, 33, 34, 35, 36, 37] A t).eval = ev at ec e7 ⊢; go_simp
            · exact ⟨_, 0, rfl, hB, Below.refl _ _, rfl, .inl rfl⟩
          | 1, _ =>
            have e23 : (fr [23, 24, 25, 26, 27, 28, 29, 30, 31, 32, 33, 34, 35, 36, 37] A t).eval (.tmp 23) = .pointer (some ⟨gf, 5, none⟩) := (fr_eval _ _ _ 23 rfl (by rw [asz]; decide)).trans (hp 0 (pre_mem (by kernel_rfl)))
            have hc := (hKF wx hB).cell 5 rfl
            refine op_run (v := .slice SF.cookie.a SF.cookie.n SF.cookie.c) (w' := wx) rfl rfl ?_ ?_
            · clear hp hd; have ec : ∀ v, (fr [23, 24, 25, 26, 27, 28, 29, 30, 31, 32, 33, 34, 35, 36, 37] A t).eval (.const v) = v := fun _ => rfl; generalize (fr [23, 24, 25, 26, 27, 28, 29, 30, 31, 32, 33, 34, 35, 36, 37] A t).eval = ev at ec e23 ⊢; go_simp
            · exact ⟨_, 0, rfl, hB, Below.refl _ _, rfl, .inl rfl⟩
          | 2, _ =>
            have e4 : (fr [23, 24, 25, 26, 27, 28, 29, 30, 31, 32, 33, 34, 35, 36, 37] A t).eval (.tmp 4) = .pointer (some ⟨gj, 0, none⟩) := (fr_eval_old _ _ _ 4 rfl).trans a4'
            have hc := (hKJ wx hB).cell 0 rfl
            refine op_run (v := .agg #[.slice S.secret.a S.secret.n S.secret.c]) (w' := wx) rfl rfl ?_ ?_
            · clear hp hd; have ec : ∀ v, (fr [23, 24, 25, 26, 27, 28, 29, 30, 31, 32, 33, 34, 35, 36, 37] A t).eval (.const v) = v := fun _ => rfl; generalize (fr [23, 24, 25, 26, 27, 28, 29, 30, 31, 32, 33, 34, 35, 36, 37] A t).eval = ev at ec e4 ⊢; go_simp
            · exact ⟨_, 0, rfl, hB, Below.refl _ _, rfl, .inl rfl⟩
          | 3, _ =>
            have e6 : (fr [23, 24, 25, 26, 27, 28, 29, 30, 31, 32, 33, 34, 35, 36, 37] A t).eval (.tmp 6) = .pointer (some ⟨ga, 0, none⟩) := (fr_eval_old _ _ _ 6 rfl).trans a6'
            have hc0 := (hKA wx hB).cell 0 rfl
            have hc1 := (hKA wx hB).cell 1 rfl
            refine op_run (v := .agg #[.int .i64 h, .int .i64 p]) (w' := wx) rfl rfl ?_ ?_
            · clear hp hd; have ec : ∀ v, (fr [23, 24, 25, 26, 27, 28, 29, 30, 31, 32, 33, 34, 35, 36, 37] A t).eval (.const v) = v := fun _ => rfl; generalize (fr [23, 24, 25, 26, 27, 28, 29, 30, 31, 32, 33, 34, 35, 36, 37] A t).eval = ev at ec e6 ⊢; go_simp
            · exact ⟨_, 0, rfl, hB, Below.refl _ _, rfl, .inl rfl⟩
          | 4, _ =>
            have e7 : (fr [23, 24, 25, 26, 27, 28, 29, 30, 31, 32, 33, 34, 35, 36, 37] A t).eval (.tmp 7) = .pointer (some ⟨gf, 0, none⟩) := (fr_eval_old _ _ _ 7 rfl).trans a7'
            refine op_run (v := .pointer (some ⟨gf, 1, none⟩)) (w' := wx) rfl rfl ?_ ?_
            · clear hp hd; have ec : ∀ v, (fr [23, 24, 25, 26, 27, 28, 29, 30, 31, 32, 33, 34, 35, 36, 37] A t).eval (.const v) = v := fun _ => rfl; generalize (fr [23, 24, 25, 26, 27, 28, 29, 30, 31, 32, 33, 34, 35, 36, 37] A t).eval = ev at ec e7 ⊢; go_simp
            · exact ⟨_, 0, rfl, hB, Below.refl _ _, rfl, .inl rfl⟩
          | 5, _ =>
            have e27 : (fr [23, 24, 25, 26, 27, 28, 29, 30, 31, 32, 33, 34, 35, 36, 37] A t).eval (.tmp 27) = .pointer (some ⟨gf, 1, none⟩) := (fr_eval _ _ _ 27 rfl (by rw [asz]; decide)).trans (hp 4 (pre_mem (by kernel_rfl)))
            have hc := (hKF wx hB).cell 1 rfl
            refine op_run (v := .int .i64 F.id) (w' := wx) rfl rfl ?_ ?_
            · clear hp hd; have ec : ∀ v, (fr [23, 24, 25, 26, 27, 28, 29, 30, 31, 32, 33, 34, 35, 36, 37] A t).eval (.const v) = v := fun _ => rfl; generalize (fr [23, 24, 25, 26, 27, 28, 29, 30, 31, 32, 33, 34, 35, 36, 37] A t).eval = ev at ec e27 ⊢; go_simp
            · exact ⟨_, 0, rfl, hB, Below.refl _ _, rfl, .inl rfl⟩
          | 6, _ =>
            have e7 : (fr [23, 24, 25, 26, 27, 28, 29, 30, 31, 32, 33, 34, 35, 36, 37] A t).eval (.tmp 7) = .pointer (some ⟨gf, 0, none⟩) := (fr_eval_old _ _ _ 7 rfl).trans a7'
            refine op_run (v := .pointer (some ⟨gf, 2, none⟩)) (w' := wx) rfl rfl ?_ ?_
            · clear hp hd; have ec : ∀ v, (fr [23, 24, 25, 26, 27, 28, 29, 30, 31, 32, 33, 34, 35, 36, 37] A t).eval (.const v) = v := fun _ => rfl; generalize (fr [23, 24, 25, 26, 27, 28, 29, 30, 31, 32, 33, 34, 35, 36, 37] A t).eval = ev at ec e7 ⊢; go_simp
            · exact ⟨_, 0, rfl, hB, Below.refl _ _, rfl, .inl rfl⟩
          | 7, _ =>
            have e29 : (fr [23, 24, 25, 26, 27, 28, 29, 30, 31, 32, 33, 34, 35, 36, 37] A t).eval (.tmp 29) = .pointer (some ⟨gf, 2, none⟩) := (fr_eval _ _ _ 29 rfl (by rw [asz]; decide)).trans (hp 6 (pre_mem (by kernel_rfl)))
            have hc := (hKF wx hB).cell 2 rfl
            refine op_run (v := .slice SF.cn.a SF.cn.n SF.cn.c) (w' := wx) rfl rfl ?_ ?_
            · clear hp hd; have ec : ∀ v, (fr [23, 24, 25, 26, 27, 28, 29, 30, 31, 32, 33, 34, 35, 36, 37] A t).eval (.const v) = v := fun _ => rfl; generalize (fr [23, 24, 25, 26, 27, 28, 29, 30, 31, 32, 33, 34, 35, 36, 37] A t).eval = ev at ec e29 ⊢; go_simp
            · exact ⟨_, 0, rfl, hB, Below.refl _ _, rfl, .inl rfl⟩
          | 8, _ =>
            have e7 : (fr [23, 24, 25, 26, 27, 28, 29, 30, 31, 32, 33, 34, 35, 36, 37] A t).eval (.tmp 7) = .pointer (some ⟨gf, 0, none⟩) := (fr_eval_old _ _ _ 7 rfl).trans a7'
            refine op_run (v := .pointer (some ⟨gf, 3, none⟩)) (w' := wx) rfl rfl ?_ ?_
            · clear hp hd; have ec : ∀ v, (fr [23, 24, 25, 26, 27, 28, 29, 30, 31, 32, 33, 34, 35, 36, 37] A t).eval (.const v) = v := fun _ => rfl; generalize (fr [23, 24, 25, 26, 27, 28, 29, 30, 31, 32, 33, 34, 35, 36, 37] A t).eval = ev at ec e7 ⊢; go_simp
            · exact ⟨_, 0, rfl, hB, Below.refl _ _, rfl, .inl rfl⟩
          | 9, _ =>
            have e31 : (fr [23, 24, 25, 26, 27, 28, 29, 30, 31, 32, 33, 34, 35, 36, 37] A t).eval (.tmp 31) = .pointer (some ⟨gf, 3, none⟩) := (fr_eval _ _ _ 31 rfl (by rw [asz]; decide)).trans (hp 8 (pre_mem (by kernel_rfl)))
            have hc := (hKF wx hB).cell 3 rfl
            refine op_run (v := .slice SF.sn.a SF.sn.n SF.sn.c) (w' := wx) rfl rfl ?_ ?_
            · clear hp hd; have ec : ∀ v, (fr [23, 24, 25, 26, 27, 28, 29, 30, 31, 32, 33, 34, 35, 36, 37] A t).eval (.const v) = v := fun _ => rfl; generalize (fr [23, 24, 25, 26, 27, 28, 29, 30, 31, 32, 33, 34, 35, 36, 37] A t).eval = ev at ec e31 ⊢; go_simp
            · exact ⟨_, 0, rfl, hB, Below.refl _ _, rfl, .inl rfl⟩
          | 10, _ =>
            have e7 : (fr [23, 24, 25, 26, 27, 28, 29, 30, 31, 32, 33, 34, 35, 36, 37] A t).eval (.tmp 7) = .pointer (some ⟨gf, 0, none⟩) := (fr_eval_old _ _ _ 7 rfl).trans a7'
            refine op_run (v := .pointer (some ⟨gf, 4, none⟩)) (w' := wx) rfl rfl ?_ ?_
            · clear hp hd; have ec : ∀ v, (fr [23, 24, 25, 26, 27, 28, 29, 30, 31, 32, 33, 34, 35, 36, 37] A t).eval (.const v) = v := fun _ => rfl; generalize (fr [23, 24, 25, 26, 27, 28, 29, 30, 31, 32, 33, 34, 35, 36, 37] A t).eval = ev at ec e7 ⊢; go_simp
            · exact ⟨_, 0, rfl, hB, Below.refl _ _, rfl, .inl rfl⟩
          | 11, _ =>
            have e33 : (fr [23, 24, 25, 26, 27, 28, 29, 30, 31, 32, 33, 34, 35, 36, 37] A t).eval (.tmp 33) = .pointer (some ⟨gf, 4, none⟩) := (fr_eval _ _ _ 33 rfl (by rw [asz]; decide)).trans (hp 10 (pre_mem (by kernel_rfl)))
            have hc := (hKF wx hB).cell 4 rfl
            refine op_run (v := .int .i64 F.tick) (w' := wx) rfl rfl ?_ ?_
            · clear hp hd; have ec : ∀ v, (fr [23, 24, 25, 26, 27, 28, 29, 30, 31, 32, 33, 34, 35, 36, 37] A t).eval (.const v) = v := fun _ => rfl; generalize (fr [23, 24, 25, 26, 27, 28, 29, 30, 31, 32, 33, 34, 35, 36, 37] A t).eval = ev at ec e33 ⊢; go_simp
            · exact ⟨_, 0, rfl, hB, Below.refl _ _, rfl, .inl rfl⟩
          | 12, _ =>
            have e25 : (fr [23, 24, 25, 26, 27, 28, 29, 30, 31, 32, 33, 34, 35, 36, 37] A t).eval (.tmp 25) = .agg #[.slice S.secret.a S.secret.n S.secret.c] := (fr_eval _ _ _ 25 rfl (by rw [asz]; decide)).trans (hp 2 (pre_mem (by kernel_rfl)))
            have e26 : (fr [23, 24, 25, 26, 27, 28, 29, 30, 31, 32, 33, 34, 35, 36, 37] A t).eval (.tmp 26) = .agg #[.int .i64 h, .int .i64 p] := (fr_eval _ _ _ 26 rfl (by rw [asz]; decide)).trans (hp 3 (pre_mem (by kernel_rfl)))
            have e28 : (fr [23, 24, 25, 26, 27, 28, 29, 30, 31, 32, 33, 34, 35, 36, 37] A t).eval (.tmp 28) = .int .i64 F.id := (fr_eval _ _ _ 28 rfl (by rw [asz]; decide)).trans (hp 5 (pre_mem (by kernel_rfl)))
            have e30 : (fr [23, 24, 25, 26, 27, 28, 29, 30, 31, 32, 33, 34, 35, 36, 37] A t).eval (.tmp 30) = .slice SF.cn.a SF.cn.n SF.cn.c := (fr_eval _ _ _ 30 rfl (by rw [asz]; decide)).trans (hp 7 (pre_mem (by kernel_rfl)))
            have e32 : (fr [23, 24, 25, 26, 27, 28, 29, 30, 31, 32, 33, 34, 35, 36, 37] A t).eval (.tmp 32) = .slice SF.sn.a SF.sn.n SF.sn.c := (fr_eval _ _ _ 32 rfl (by rw [asz]; decide)).trans (hp 9 (pre_mem (by kernel_rfl)))
            have e34 : (fr [23, 24, 25, 26, 27, 28, 29, 30, 31, 32, 33, 34, 35, 36, 37] A t).eval (.tmp 34) = .int .i64 F.tick := (fr_eval _ _ _ 34 rfl (by rw [asz]; decide)).trans (hp 11 (pre_mem (by kernel_rfl)))
            refine op_call (f := 8) (args := #[.agg #[.slice S.secret.a S.secret.n S.secret.c], .agg #[.int .i64 h, .int .i64 p], .int .i64 F.id, .slice SF.cn.a SF.cn.n SF.cn.c, .slice SF.sn.a SF.sn.n SF.sn.c, .int .i64 F.tick]) rfl rfl ?_ (CkJ.implMint S D h p F.id SF.cn SF.sn F.cn F.sn F.tick wx (hTT wx hB) (HJ.out.later (hWB wx hB)) (HF.out.later (hWB wx hB)).cn (HF.out.later (hWB wx hB)).sn) ?_
            · have ef : (fr [23, 24, 25, 26, 27, 28, 29, 30, 31, 32, 33, 34, 35, 36, 37] A t).eval (.func 8) = .func (.func 8) #[] #[] := rfl; clear hp hd; have ec : ∀ v, (fr [23, 24, 25, 26, 27, 28, 29, 30, 31, 32, 33, 34, 35, 36, 37] A t).eval (.const v) = v := fun _ => rfl; generalize (fr [23, 24, 25, 26, 27, 28, 29, 30, 31, 32, 33, 34, 35, 36, 37] A t).eval = ev at ec e25 e26 e28 e30 e32 e34 ef ⊢; go_simp
            · rintro e wy ⟨T, rfl, o1, b1⟩
              exact ⟨_, rfl, _, 0, rfl, hB.trans (b1.mono hB.size), b1, ⟨T, rfl, o1.rd⟩, .inl rfl⟩
          | 13, _ =>
            have e24 : (fr [23, 24, 25, 26, 27, 28, 29, 30, 31, 32, 33, 34, 35, 36, 37] A t).eval (.tmp 24) = .slice SF.cookie.a SF.cookie.n SF.cookie.c := (fr_eval _ _ _ 24 rfl (by rw [asz]; decide)).trans (hp 1 (pre_mem (by kernel_rfl)))
            obtain ⟨T12, hv12, q12_0⟩ := hp 12 (pre_mem (by kernel_rfl))
            have e35 : (fr [23, 24, 25, 26, 27, 28, 29, 30, 31, 32, 33, 34, 35, 36, 37] A t).eval (.tmp 35) = .slice T12.a T12.n T12.c := (fr_eval _ _ _ 35 rfl (by rw [asz]; decide)).trans hv12
            refine op_call (f := 47) (args := #[.slice SF.cookie.a SF.cookie.n SF.cookie.c, .slice T12.a T12.n T12.c]) rfl rfl ?_ (UnsI.sameTagV SF.cookie T12 F.cookie (mint D h p F.id F.cn F.sn F.tick) vv wx (HF.out.later (hWB wx hB)).cookie q12_0 (by have := HLN.out; omega) (by have := mint_le D h p F.id F.cn F.sn F.tick; omega) HSV.out) ?_
            · have ef : (fr [23, 24, 25, 26, 27, 28, 29, 30, 31, 32, 33, 34, 35, 36, 37] A t).eval (.func 47) = .func (.func 47) #[] #[] := rfl; clear hp hd q12_0; have ec : ∀ v, (fr [23, 24, 25, 26, 27, 28, 29, 30, 31, 32, 33, 34, 35, 36, 37] A t).eval (.const v) = v := fun _ => rfl; generalize (fr [23, 24, 25, 26, 27, 28, 29, 30, 31, 32, 33, 34, 35, 36, 37] A t).eval = ev at ec e24 e35 ef ⊢; go_simp
            · rintro e wy ⟨rfl, b1⟩
              exact ⟨_, rfl, _, 0, rfl, hB.trans (b1.mono hB.size), b1, rfl, .inl rfl⟩
          | 14, _ =>
            have hv13 := hp 13 (pre_mem (by kernel_rfl))
            have e36 : (fr [23, 24, 25, 26, 27, 28, 29, 30, 31, 32, 33, 34, 35, 36, 37] A t).eval (.tmp 36) = .bool vv := (fr_eval _ _ _ 36 rfl (by rw [asz]; decide)).trans hv13
            refine op_run (v := .bool (!vv)) (w' := wx) rfl rfl ?_ ?_
            · clear hp hd; have ec : ∀ v, (fr [23, 24, 25, 26, 27, 28, 29, 30, 31, 32, 33, 34, 35, 36, 37] A t).eval (.const v) = v := fun _ => rfl; generalize (fr [23, 24, 25, 26, 27, 28, 29, 30, 31, 32, 33, 34, 35, 36, 37] A t).eval = ev at ec e36 ⊢; go_simp
            · exact ⟨_, 0, rfl, hB, Below.refl _ _, rfl, .inl rfl⟩
        · intro t ρ wx hB hF hne
          have e37 : (fr [23, 24, 25, 26, 27, 28, 29, 30, 31, 32, 33, 34, 35, 36, 37] A t).eval (.tmp 37) = .bool (!vv) := (fr_eval _ _ _ 37 rfl (by rw [asz]; decide)).trans (hF 14 (by decide))
          clear hne
          refine op_wp rfl rfl ?_
          generalize hE : (fr [23, 24, 25, 26, 27, 28, 29, 30, 31, 32, 33, 34, 35, 36, 37] A t).eval = ev at e37
          unfold Oper.wp
          rw [hE]
          go_simp
          refine hMet _ _ (Met.intro (hRJ _ _ ⟨_, t 23, t 24, t 25, t 26, t 27, t 28, t 29, t 30, t 31, t 32, t 33, t 34, t 35, t 36, t 37, ⟨rfl, hB⟩, ?_⟩))
          rw [← hA]; rfl
      case rest =>
        obtain ⟨x3, hxc⟩ : ∃ zz, zz = wc := ⟨_, rfl⟩
        subst hxc
        obtain ⟨rfl, b⟩ := hcut
        clear KJ2 KA2 KF2
        have L3 : Hid (x2.heap.size ≤ x3.heap.size) := b.size
        have B3 : Hid (Below w.heap.size w x3) := B2.out.trans (b.mono B2.out.size)
        clear b B2
        cases vv with
        | false =>
          obtain rfl : C = 2 := by rw [← HCD.out]; exact judge_2 HY.out h5 HSV.out
          go_wp2
          go_ret
          exact ⟨rfl, B3.out⟩
        | true =>
          obtain rfl : C = 0 := by rw [← HCD.out]; exact judge_0 HY.out h5 HSV.out
          go_wp2
          go_ret
          exact ⟨rfl, B3.out⟩
end Go.Proofs.YtpgapjdejelajaaGreatDoor.CkV

namespace Go.Proofs.YtpgapjdejelajaaGreatDoor.SlS
open Go.RowKit Go.Proofs.YtpgapjdejelajaaGreatDoor.Mem Go.Proofs.YtpgapjdejelajaaGreatDoor.App Go.Proofs.YtpgapjdejelajaaGreatDoor.AppAt Go.Proofs.YtpgapjdejelajaaGreatDoor.AppStep Go.Proofs.YtpgapjdejelajaaGreatDoor.Blk Go.Proofs.YtpgapjdejelajaaGreatDoor.Words Go.Proofs.YtpgapjdejelajaaGreatDoor.Zone Go.Proofs.YtpgapjdejelajaaGreatDoor.Res Go.Proofs.YtpgapjdejelajaaGreatDoor.FrZ Go.Proofs.YtpgapjdejelajaaGreatDoor.FrP Go.Proofs.YtpgapjdejelajaaGreatDoor.FrG Go.Proofs.YtpgapjdejelajaaGreatDoor.FrQ Go.Proofs.YtpgapjdejelajaaGreatDoor.FrS Go.Proofs.YtpgapjdejelajaaGreatDoor.FrQ2 Go.Proofs.YtpgapjdejelajaaGreatDoor.SlP

set_option maxRecDepth 100000 in
theorem new_nil {w x : World} (b : Below w.heap.size w x) : New w [] (.returned (.slice (some ⟨x.heap.size, 0, none⟩) 0 0)) (x.alloc (.cells #[] 5)) :=
  ⟨x.heap.size, 0, 0, rfl, rfl, b.size, ⟨Nat.le_refl _, by unfold maxLen; omega, #[], heap_alloc_new x _, rfl, rfl⟩, b.alloc b.size _⟩
set_option maxRecDepth 100000 in
theorem putNum (n : Int) (k : Nat) (h : 1 ≤ k) (h6 : k ≤ 6) : putN n (k : Int) = num n k := by unfold putN; rw [if_pos (by omega)]; rfl
set_option maxRecDepth 100000 in
theorem lay_head {role : Int} {l : List Int} {epoch seq : Int} (h : headOk role l.length epoch seq = true) : [role] ++ l ++ putN epoch 4 ++ putN seq 6 = headL role l epoch seq := by
  rw [headL_yes _ _ _ _ h]; rfl
set_option maxRecDepth 100000 in
theorem sputK (s : Sl) (x : List Int) (n k : Int) (w : World) (hx : SRd w s x) (lx : x.length ≤ 100000) :
    Calls Tryz.prog 70 #[.slice s.a s.n s.c, .int .i64 n, .int .i64 k] w (New w (x ++ putN n k)) := specPutN s.a s.n s.c x n k w hx.len hx.rd hx.nil (by omega)

set_option maxRecDepth 100000 in
theorem lay_tag {role : Int} {D : FrD} (h : canTag role D = true) : [116] ++ headL role D.sn D.epoch D.seq ++ [D.kind] ++ D.body = tagIn role D := (tagIn_yes _ _ h).symm
end Go.Proofs.YtpgapjdejelajaaGreatDoor.SlS

namespace Go.Proofs.YtpgapjdejelajaaGreatDoor.StrS
open Go.RowKit Go.Proofs.YtpgapjdejelajaaGreatDoor.Mem Go.Proofs.YtpgapjdejelajaaGreatDoor.App Go.Proofs.YtpgapjdejelajaaGreatDoor.AppAt Go.Proofs.YtpgapjdejelajaaGreatDoor.AppStep Go.Proofs.YtpgapjdejelajaaGreatDoor.ShaP Go.Proofs.YtpgapjdejelajaaGreatDoor.Words Go.Proofs.YtpgapjdejelajaaGreatDoor.DiffP Go.Proofs.YtpgapjdejelajaaGreatDoor.MacP Go.Proofs.YtpgapjdejelajaaGreatDoor.MacS Go.Proofs.YtpgapjdejelajaaGreatDoor.KdfP

set_option maxRecDepth 100000 in
theorem blockI_nat (k h : List Int) (i : Nat) (hi : i ≤ 6) (hh : h.length ≤ 100) : blockI k h (i : Int) = sblk k h i := by
  unfold blockI; rw [if_pos ⟨by omega, by omega, hh⟩, Int.toNat_natCast]

set_option maxRecDepth 100000 in
theorem xors_take (a b : List Int) (q : Nat) (h1 : q < a.length) (h2 : q < b.length) : (xors a b).take (q + 1) = (xors a b).take q ++ [bits .xor .u8 (a.getD q 0) (b.getD q 0)] := by
  have hx : q < (xors a b).length := by rw [xors_length]; omega
  have e := xors_at a b q h1 h2
  rw [List.getElem?_eq_getElem hx, Option.some.injEq] at e
  rw [List.take_succ_eq_append_getElem hx, e]
  simp [List.getD, h1, h2]

end Go.Proofs.YtpgapjdejelajaaGreatDoor.StrS

namespace Go.Proofs.YtpgapjdejelajaaGreatDoor.UnsS
open Go.RowKit Go.Proofs.YtpgapjdejelajaaGreatDoor.Mem Go.Proofs.YtpgapjdejelajaaGreatDoor.App Go.Proofs.YtpgapjdejelajaaGreatDoor.Blk Go.Proofs.YtpgapjdejelajaaGreatDoor.Words Go.Proofs.YtpgapjdejelajaaGreatDoor.Zone Go.Proofs.YtpgapjdejelajaaGreatDoor.Res Go.Proofs.YtpgapjdejelajaaGreatDoor.DiffP Go.Proofs.YtpgapjdejelajaaGreatDoor.Diffs Go.Proofs.YtpgapjdejelajaaGreatDoor.MacP Go.Proofs.YtpgapjdejelajaaGreatDoor.KdfP Go.Proofs.YtpgapjdejelajaaGreatDoor.FrZ Go.Proofs.YtpgapjdejelajaaGreatDoor.FrL Go.Proofs.YtpgapjdejelajaaGreatDoor.FrP Go.Proofs.YtpgapjdejelajaaGreatDoor.FrG Go.Proofs.YtpgapjdejelajaaGreatDoor.FrQ Go.Proofs.YtpgapjdejelajaaGreatDoor.FrQ2 Go.Proofs.YtpgapjdejelajaaGreatDoor.SlP Go.Proofs.YtpgapjdejelajaaGreatDoor.SlQ Go.Proofs.YtpgapjdejelajaaGreatDoor.Shp Go.Proofs.YtpgapjdejelajaaGreatDoor.Each Go.Proofs.YtpgapjdejelajaaGreatDoor.Copy Go.Proofs.YtpgapjdejelajaaGreatDoor.Ops Go.Proofs.YtpgapjdejelajaaGreatDoor.Guard Go.Proofs.YtpgapjdejelajaaGreatDoor.MacS Go.Proofs.YtpgapjdejelajaaGreatDoor.StrS Go.Proofs.YtpgapjdejelajaaGreatDoor.SlS

set_option maxRecDepth 100000 in
theorem same_dec {x y : List Int} (hx : Bytes x) (hy : Bytes y) (h : x.length = 16) : sameI x y = decide (x = y) := by
  rw [sameI_yes x y h]
  by_cases e : x = y
  · rw [decide_eq_true e, (diffI_zero x y hx hy).2 e]; rfl
  · rw [decide_eq_false e]
    have := mt (diffI_zero x y hx hy).1 e
    simpa using this
set_option maxRecDepth 100000 in
theorem sameTagV (s t : Sl) (x y : List Int) (v : Bool) (w : World) (h : SRd w s x) (k : SRd w t y) (lx : x.length ≤ 4194304) (ly : y.length ≤ 4194304) (hv : sameI x y = v) :
    Calls Tryz.prog 58 #[.slice s.a s.n s.c, .slice t.a t.n t.c] w fun e w' => e = .returned (.bool v) ∧ Below w.heap.size w w' := by
  subst hv
  refine (specSameTag s.a t.a s.n s.c t.n t.c x y w h.len k.len h.rd k.rd h.bytes k.bytes (by rw [h.len]; exact lx) (by rw [k.len]; exact ly)).mono ?_
  rintro e w' ⟨rfl, m, rfl⟩
  exact ⟨rfl, ⟨rfl, rfl, rfl, Nat.le_refl _, fun _ _ => rfl⟩⟩
set_option maxRecDepth 100000 in
theorem tagN (k t : Sl) (lk l : List Int) (w : World) (hk : SRd w k lk) (h : SRd w t l) (h1 : lk.length ≤ 2000000) (h2 : l.length ≤ 2000000) :
    Calls Tryz.prog 38 #[.slice k.a k.n k.c, .slice t.a t.n t.c] w (AnsB (tagI lk l) w) := (specTag k.a k.n k.c t.a t.n t.c lk l w hk.len h.len hk.rd h.rd hk.nil h.nil hk.bytes h.bytes (by rw [hk.len]; omega) (by rw [h.len]; omega)).mono fun _ _ h' => AnsB.of (tagI_bytes _ _) h'

/-- What opening answers. -/
def AnsBb (l : List Int) (ok : Bool) (w : World) : Ending → World → Prop := fun e w' => ∃ S0 : Sl, e = .returned (.tuple #[.slice S0.a S0.n S0.c, .bool ok]) ∧ SOwn w' w.heap.size w'.heap.size S0 l ∧ Below w.heap.size w w'
set_option maxRecDepth 100000 in
theorem ans_no {w x : World} (b : Below w.heap.size w x) : AnsBb [] false w (.returned (.tuple #[.slice (some ⟨x.heap.size, 0, none⟩) 0 0, .bool false])) (x.alloc (.cells #[] 5)) :=
  ⟨⟨some ⟨x.heap.size, 0, none⟩, 0, 0⟩, rfl, SOwn.row ⟨Nat.le_refl _, by unfold maxLen; omega, #[], heap_alloc_new x _, rfl, rfl⟩ rfl (fun z hz => by cases hz) b.size (by simp), b.alloc b.size _⟩

end Go.Proofs.YtpgapjdejelajaaGreatDoor.UnsS
