/-
  The laws' own words of whether two frames, two epochs are the same.
-/
import Derived.Test.YtpenhliaelhnoaaGreatDoorVaSameV
import Derived.Test.YtpenhliaelhnoaaGreatDoorVaGz16
set_option maxRecDepth 100000
namespace Go.Proofs.YtpenhliaelhnoaaGreatDoor.SmFr
open Go.RowKit Mem Blk Zone FrZ FrE

theorem sameS (s t : Sl) (x : List Int) (w : World) (h : SRd w s x) (k : SRd w t x) :
  Calls Tryz.prog 16 #[.slice s.a s.n s.c, .slice t.a t.n t.c] w fun e w' => e = .returned (.bool true) ∧ w = w' := by
 have cv1 := convS h
 have cv2 := convS k
 clear h k
 generalize strOfNums x = sx at *
 have hss : (sx.toList == sx.toList) = true := by simp
 go_enter Tryz.func16, Tryz.ntmps16
 go_wp2
 go_ret
 exact ⟨by simp, rfl⟩
set_option maxHeartbeats 4000000 in
theorem sameFrame (S T : FrS) (D : FrD) (w : World) (h : FrRd w S D) (k : FrRd w T D) :
  Calls Tryz.prog 11 #[frV D S, frV D T] w fun e w' => e = .returned (.bool true) ∧ Below w.heap.size w w' := by
 have HR := hid (h)
 have KR := hid (k)
 obtain ⟨x0, hx0⟩ : ∃ x0, (w.alloc (.cells #[.int .i64 D.kind, .int .i64 D.id, .slice S.cn.a S.cn.n S.cn.c, .slice S.sn.a S.sn.n S.sn.c, .int .i64 D.tick, .slice S.cookie.a S.cookie.n S.cookie.c, .slice S.proof.a S.proof.n S.proof.c, .int .i64 D.epoch, .int .i64 D.seq, .slice S.body.a S.body.n S.body.c, .slice S.tag.a S.tag.n S.tag.c] 25)).alloc (.cells #[.int .i64 D.kind, .int .i64 D.id, .slice T.cn.a T.cn.n T.cn.c, .slice T.sn.a T.sn.n T.sn.c, .int .i64 D.tick, .slice T.cookie.a T.cookie.n T.cookie.c, .slice T.proof.a T.proof.n T.proof.c, .int .i64 D.epoch, .int .i64 D.seq, .slice T.body.a T.body.n T.body.c, .slice T.tag.a T.tag.n T.tag.c] 25) = x0 := ⟨_, rfl⟩
 have HW0 := hid (hx0)
 have B0 : Hid (Below w.heap.size w x0) := by rw [← hx0]; exact ((Below.refl _ _).alloc (Nat.le_refl _) _).alloc (by simp) _
 have KA : Hid (Blk x0 w.heap.size 25 [.int .i64 D.kind, .int .i64 D.id, .slice S.cn.a S.cn.n S.cn.c, .slice S.sn.a S.sn.n S.sn.c, .int .i64 D.tick, .slice S.cookie.a S.cookie.n S.cookie.c, .slice S.proof.a S.proof.n S.proof.c, .int .i64 D.epoch, .int .i64 D.seq, .slice S.body.a S.body.n S.body.c, .slice S.tag.a S.tag.n S.tag.c]) := by rw [← hx0]; exact (Blk.new w _ _).alloc _
 have KB : Hid (Blk x0 (w.heap.size + 1) 25 [.int .i64 D.kind, .int .i64 D.id, .slice T.cn.a T.cn.n T.cn.c, .slice T.sn.a T.sn.n T.sn.c, .int .i64 D.tick, .slice T.cookie.a T.cookie.n T.cookie.c, .slice T.proof.a T.proof.n T.proof.c, .int .i64 D.epoch, .int .i64 D.seq, .slice T.body.a T.body.n T.body.c, .slice T.tag.a T.tag.n T.tag.c]) := by
  have := Blk.new (w.alloc (.cells #[.int .i64 D.kind, .int .i64 D.id, .slice S.cn.a S.cn.n S.cn.c, .slice S.sn.a S.sn.n S.sn.c, .int .i64 D.tick, .slice S.cookie.a S.cookie.n S.cookie.c, .slice S.proof.a S.proof.n S.proof.c, .int .i64 D.epoch, .int .i64 D.seq, .slice S.body.a S.body.n S.body.c, .slice S.tag.a S.tag.n S.tag.c] 25)) 25 [.int .i64 D.kind, .int .i64 D.id, .slice T.cn.a T.cn.n T.cn.c, .slice T.sn.a T.sn.n T.sn.c, .int .i64 D.tick, .slice T.cookie.a T.cookie.n T.cookie.c, .slice T.proof.a T.proof.n T.proof.c, .int .i64 D.epoch, .int .i64 D.seq, .slice T.body.a T.body.n T.body.c, .slice T.tag.a T.tag.n T.tag.c]
  rw [World.size_alloc] at this
  rw [← hx0]; exact this
 have e_kind : (D.kind == D.kind) = true := by simp
 have e_id : (D.id == D.id) = true := by simp
 have e_tick : (D.tick == D.tick) = true := by simp
 have e_epoch : (D.epoch == D.epoch) = true := by simp
 have e_seq : (D.seq == D.seq) = true := by simp
 clear hx0 h k
 unfold frV
 go_enter Tryz.func11, Tryz.ntmps11
 go_wp2_with fail
 rw [HW0.out]
 obtain ⟨ga, hga⟩ : ∃ ga, w.heap.size = ga := ⟨_, rfl⟩
 obtain ⟨gb, hgb⟩ : ∃ gb, w.heap.size + 1 = gb := ⟨_, rfl⟩
 rw [hgb] at KB ⊢
 rw [hga] at KA
 rw [hga]
 clear hgb
 have a0 := KA.out.cell 0 rfl
 have b0 := KB.out.cell 0 rfl
 have a1 := KA.out.cell 1 rfl
 have b1 := KB.out.cell 1 rfl
 have a2 := KA.out.cell 2 rfl
 have b2 := KB.out.cell 2 rfl
 have a3 := KA.out.cell 3 rfl
 have b3 := KB.out.cell 3 rfl
 have a4 := KA.out.cell 4 rfl
 have b4 := KB.out.cell 4 rfl
 have a5 := KA.out.cell 5 rfl
 have b5 := KB.out.cell 5 rfl
 have a6 := KA.out.cell 6 rfl
 have b6 := KB.out.cell 6 rfl
 have a7 := KA.out.cell 7 rfl
 have b7 := KB.out.cell 7 rfl
 have a8 := KA.out.cell 8 rfl
 have b8 := KB.out.cell 8 rfl
 have a9 := KA.out.cell 9 rfl
 have b9 := KB.out.cell 9 rfl
 have a10 := KA.out.cell 10 rfl
 have b10 := KB.out.cell 10 rfl
 refine (sameS S.cn T.cn D.cn x0 (HR.out.later B0.out).cn (KR.out.later B0.out).cn).mono ?_
 rintro e y ⟨rfl, rfl⟩
 go_wp2_with fail
 refine (sameS S.sn T.sn D.sn x0 (HR.out.later B0.out).sn (KR.out.later B0.out).sn).mono ?_
 rintro e y ⟨rfl, rfl⟩
 go_wp2_with fail
 refine (sameS S.cookie T.cookie D.cookie x0 (HR.out.later B0.out).cookie (KR.out.later B0.out).cookie).mono ?_
 rintro e y ⟨rfl, rfl⟩
 go_wp2_with fail
 refine (sameS S.proof T.proof D.proof x0 (HR.out.later B0.out).proof (KR.out.later B0.out).proof).mono ?_
 rintro e y ⟨rfl, rfl⟩
 go_wp2_with fail
 refine (sameS S.body T.body D.body x0 (HR.out.later B0.out).body (KR.out.later B0.out).body).mono ?_
 rintro e y ⟨rfl, rfl⟩
 go_wp2_with fail
 refine (sameS S.tag T.tag D.tag x0 (HR.out.later B0.out).tag (KR.out.later B0.out).tag).mono ?_
 rintro e y ⟨rfl, rfl⟩
 go_wp2
 go_ret
 exact ⟨rfl, hga ▸ B0.out⟩
end Go.Proofs.YtpenhliaelhnoaaGreatDoor.SmFr
