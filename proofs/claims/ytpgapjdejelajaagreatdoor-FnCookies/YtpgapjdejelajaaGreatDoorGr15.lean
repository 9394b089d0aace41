/-
  What impl's FrameOk and Sealed answer.
  What impl's PutFrame and SizeOf answer.
  Heads, and what a tag is of, as plain functions.
  What impl's Sealed answers.
  What impl lays as a head, and as what a tag is of.
  What is sealed, and opened, as plain functions.
  A range over a function that hands each round a value in new memory: each round is told what the iterator says of that value in the world where it is handed over (the library's contracts hand a round a value alone).
  What impl's BlockOf and canStream answer, and the iterator of a stream's blocks, where the table of round words holds what the program's text lays into it.
-/
import Derived.Test.YtpgapjdejelajaaGreatDoorFrO
import Derived.Test.YtpgapjdejelajaaGreatDoorGr14
import Derived.Test.YtpgapjdejelajaaGreatDoorGr9
import Derived.Test.YtpgapjdejelajaaGreatDoorGr10
import Derived.Test.YtpgapjdejelajaaGreatDoorGr11
import Derived.Test.YtpgapjdejelajaaGreatDoorGr7
import Derived.RangeFuncNested
import Derived.RangeFuncBound
import Derived.RangeFuncCalls
import Derived.RangeFuncLeaves
import Derived.Test.YtpgapjdejelajaaGreatDoorGr1
import Derived.Test.YtpgapjdejelajaaGreatDoorGr13
import Derived.Test.YtpgapjdejelajaaGreatDoorGr4
import Derived.Shelf.Abstract
import Derived.Shelf.RegionOpen
import Derived.WalkKit
import Derived.OwnWalkIn
import Derived.TacticsInMore
import Derived.LoopNIn
import Derived.LoopIn
set_option linter.unusedVariables false
namespace Go.Proofs.YtpgapjdejelajaaGreatDoor.FrO2
open Go.RowKit Go.Proofs.YtpgapjdejelajaaGreatDoor.Mem Go.Proofs.YtpgapjdejelajaaGreatDoor.Blk Go.Proofs.YtpgapjdejelajaaGreatDoor.Words Go.Proofs.YtpgapjdejelajaaGreatDoor.Zone Go.Proofs.YtpgapjdejelajaaGreatDoor.Res Go.Proofs.YtpgapjdejelajaaGreatDoor.FrZ Go.Proofs.YtpgapjdejelajaaGreatDoor.FrP Go.Proofs.YtpgapjdejelajaaGreatDoor.FrB Go.Proofs.YtpgapjdejelajaaGreatDoor.FrT Go.Proofs.YtpgapjdejelajaaGreatDoor.FrW Go.Proofs.YtpgapjdejelajaaGreatDoor.FrW2 Go.Proofs.YtpgapjdejelajaaGreatDoor.FrW3 Go.Proofs.YtpgapjdejelajaaGreatDoor.FrE Go.Proofs.YtpgapjdejelajaaGreatDoor.FrO

set_option maxRecDepth 100000 in
theorem ok1 (di : Int) (lcn lsn : List Int) (dt : Int) (lco lpr : List Int) (de dq : Int) (lbo lta : List Int) :
    ((isIn di 1 9 && ((lcn.length : Int) == 12)) && sameD ⟨1, di, lcn, [], 0, [], [], 0, 0, [], []⟩ ⟨1, di, lcn, lsn, dt, lco, lpr, de, dq, lbo, lta⟩) = frameOk ⟨1, di, lcn, lsn, dt, lco, lpr, de, dq, lbo, lta⟩ := by
  rw [Bool.eq_iff_iff, ok_iff]
  simp only [sameD, Bool.and_eq_true, beq_iff_eq, decide_eq_true_eq, isIn, nil_iff, true_and]
  constructor <;> intro h <;> omega

set_option maxRecDepth 100000 in
theorem ok2 (di : Int) (lcn lsn : List Int) (dt : Int) (lco lpr : List Int) (de dq : Int) (lbo lta : List Int) :
    ((((lcn.length : Int) == 12) && (((lsn.length : Int) == 12) && (isIn dt 0 1000000 && ((lco.length : Int) == 16)))) && sameD ⟨2, 0, lcn, lsn, dt, lco, [], 0, 0, [], []⟩ ⟨2, di, lcn, lsn, dt, lco, lpr, de, dq, lbo, lta⟩) = frameOk ⟨2, di, lcn, lsn, dt, lco, lpr, de, dq, lbo, lta⟩ := by
  rw [Bool.eq_iff_iff, ok_iff]
  simp only [sameD, Bool.and_eq_true, beq_iff_eq, decide_eq_true_eq, isIn, nil_iff, true_and]
  constructor <;> intro h <;> omega

set_option maxRecDepth 100000 in
theorem ok3 (di : Int) (lcn lsn : List Int) (dt : Int) (lco lpr : List Int) (de dq : Int) (lbo lta : List Int) :
    ((isIn di 1 9 && ((((lcn.length : Int) == 12) && (((lsn.length : Int) == 12) && (isIn dt 0 1000000 && ((lco.length : Int) == 16)))) && ((lpr.length : Int) == 16))) && sameD ⟨3, di, lcn, lsn, dt, lco, lpr, 0, 0, [], []⟩ ⟨3, di, lcn, lsn, dt, lco, lpr, de, dq, lbo, lta⟩) = frameOk ⟨3, di, lcn, lsn, dt, lco, lpr, de, dq, lbo, lta⟩ := by
  rw [Bool.eq_iff_iff, ok_iff]
  simp only [sameD, Bool.and_eq_true, beq_iff_eq, decide_eq_true_eq, isIn, nil_iff, true_and]
  constructor <;> intro h <;> omega

set_option maxRecDepth 100000 in
theorem ok4 (di : Int) (lcn lsn : List Int) (dt : Int) (lco lpr : List Int) (de dq : Int) (lbo lta : List Int) :
    (((((lsn.length : Int) == 12) && (isIn de 0 4294967295 && (isIn dq 0 281474976710655 && ((lta.length : Int) == 16)))) && (decide ((lbo.length : Int) ≤ 40))) && sameD ⟨4, 0, [], lsn, 0, [], [], de, dq, lbo, lta⟩ ⟨4, di, lcn, lsn, dt, lco, lpr, de, dq, lbo, lta⟩) = frameOk ⟨4, di, lcn, lsn, dt, lco, lpr, de, dq, lbo, lta⟩ := by
  rw [Bool.eq_iff_iff, ok_iff]
  have hb : bodyOk 4 (lbo.length : Int) = true ↔ (lbo.length : Int) ≤ 40 := by
      unfold bodyOk; simp; try omega
  simp only [sameD, Bool.and_eq_true, beq_iff_eq, decide_eq_true_eq, isIn, nil_iff, true_and, and_true, hb]
  constructor <;> intro h <;> omega

set_option maxRecDepth 100000 in
theorem ok5 (di : Int) (lcn lsn : List Int) (dt : Int) (lco lpr : List Int) (de dq : Int) (lbo lta : List Int) :
    (((((lsn.length : Int) == 12) && (isIn de 0 4294967295 && (isIn dq 0 281474976710655 && ((lta.length : Int) == 16)))) && ((lbo.length : Int) == 12)) && sameD ⟨5, 0, [], lsn, 0, [], [], de, dq, lbo, lta⟩ ⟨5, di, lcn, lsn, dt, lco, lpr, de, dq, lbo, lta⟩) = frameOk ⟨5, di, lcn, lsn, dt, lco, lpr, de, dq, lbo, lta⟩ := by
  rw [Bool.eq_iff_iff, ok_iff]
  have hb : bodyOk 5 (lbo.length : Int) = true ↔ lbo.length = 12 := by
      unfold bodyOk; simp; try omega
  simp only [sameD, Bool.and_eq_true, beq_iff_eq, decide_eq_true_eq, isIn, nil_iff, true_and, and_true, hb]
  constructor <;> intro h <;> omega

set_option maxRecDepth 100000 in
theorem ok6 (di : Int) (lcn lsn : List Int) (dt : Int) (lco lpr : List Int) (de dq : Int) (lbo lta : List Int) :
    (((((lsn.length : Int) == 12) && (isIn de 0 4294967295 && (isIn dq 0 281474976710655 && ((lta.length : Int) == 16)))) && ((lbo.length : Int) == 12)) && sameD ⟨6, 0, [], lsn, 0, [], [], de, dq, lbo, lta⟩ ⟨6, di, lcn, lsn, dt, lco, lpr, de, dq, lbo, lta⟩) = frameOk ⟨6, di, lcn, lsn, dt, lco, lpr, de, dq, lbo, lta⟩ := by
  rw [Bool.eq_iff_iff, ok_iff]
  have hb : bodyOk 6 (lbo.length : Int) = true ↔ lbo.length = 12 := by
      unfold bodyOk; simp; try omega
  simp only [sameD, Bool.and_eq_true, beq_iff_eq, decide_eq_true_eq, isIn, nil_iff, true_and, and_true, hb]
  constructor <;> intro h <;> omega

set_option maxRecDepth 100000 in
theorem ok7 (di : Int) (lcn lsn : List Int) (dt : Int) (lco lpr : List Int) (de dq : Int) (lbo lta : List Int) :
    (((((lsn.length : Int) == 12) && (isIn de 0 4294967295 && (isIn dq 0 281474976710655 && ((lta.length : Int) == 16)))) && ((lbo.length : Int) == 4)) && sameD ⟨7, 0, [], lsn, 0, [], [], de, dq, lbo, lta⟩ ⟨7, di, lcn, lsn, dt, lco, lpr, de, dq, lbo, lta⟩) = frameOk ⟨7, di, lcn, lsn, dt, lco, lpr, de, dq, lbo, lta⟩ := by
  rw [Bool.eq_iff_iff, ok_iff]
  have hb : bodyOk 7 (lbo.length : Int) = true ↔ lbo.length = 4 := by
      unfold bodyOk; simp; try omega
  simp only [sameD, Bool.and_eq_true, beq_iff_eq, decide_eq_true_eq, isIn, nil_iff, true_and, and_true, hb]
  constructor <;> intro h <;> omega

set_option maxRecDepth 100000 in
theorem ok8 (di : Int) (lcn lsn : List Int) (dt : Int) (lco lpr : List Int) (de dq : Int) (lbo lta : List Int) :
    (((((lsn.length : Int) == 12) && (isIn de 0 4294967295 && (isIn dq 0 281474976710655 && ((lta.length : Int) == 16)))) && ((lbo.length : Int) == 4)) && sameD ⟨8, 0, [], lsn, 0, [], [], de, dq, lbo, lta⟩ ⟨8, di, lcn, lsn, dt, lco, lpr, de, dq, lbo, lta⟩) = frameOk ⟨8, di, lcn, lsn, dt, lco, lpr, de, dq, lbo, lta⟩ := by
  rw [Bool.eq_iff_iff, ok_iff]
  have hb : bodyOk 8 (lbo.length : Int) = true ↔ lbo.length = 4 := by
      unfold bodyOk; simp; try omega
  simp only [sameD, Bool.and_eq_true, beq_iff_eq, decide_eq_true_eq, isIn, nil_iff, true_and, and_true, hb]
  constructor <;> intro h <;> omega

set_option maxRecDepth 100000 in
set_option maxHeartbeats 1600000 in
theorem implOk0 (S : FrS) (dk di dt de dq : Int) (w : World) (h1 : (dk == 1) = false) (h2 : (dk == 2) = false) (h3 : (dk == 3) = false) (h4 : (dk == 4) = false) (h5 : (dk == 5) = false) (h6 : (dk == 6) = false) (h7 : (dk == 7) = false) (h8 : (dk == 8) = false) :
    Calls Tryz.prog 78 #[.agg #[.int .i64 dk, .int .i64 di, .slice S.cn.a S.cn.n S.cn.c, .slice S.sn.a S.sn.n S.sn.c, .int .i64 dt, .slice S.cookie.a S.cookie.n S.cookie.c, .slice S.proof.a S.proof.n S.proof.c, .int .i64 de, .int .i64 dq, .slice S.body.a S.body.n S.body.c, .slice S.tag.a S.tag.n S.tag.c]] w fun e w' => e = .returned (.bool false) ∧ Below w.heap.size w w' := by
  obtain ⟨x0, hx0⟩ : ∃ x0, w.alloc (.cells #[.int .i64 dk, .int .i64 di, .slice S.cn.a S.cn.n S.cn.c, .slice S.sn.a S.sn.n S.sn.c, .int .i64 dt, .slice S.cookie.a S.cookie.n S.cookie.c, .slice S.proof.a S.proof.n S.proof.c, .int .i64 de, .int .i64 dq, .slice S.body.a S.body.n S.body.c, .slice S.tag.a S.tag.n S.tag.c] 35) = x0 := ⟨_, rfl⟩
  have HW0 : Hid (w.alloc (.cells #[.int .i64 dk, .int .i64 di, .slice S.cn.a S.cn.n S.cn.c, .slice S.sn.a S.sn.n S.sn.c, .int .i64 dt, .slice S.cookie.a S.cookie.n S.cookie.c, .slice S.proof.a S.proof.n S.proof.c, .int .i64 de, .int .i64 dq, .slice S.body.a S.body.n S.body.c, .slice S.tag.a S.tag.n S.tag.c] 35) = x0) := hx0
  have B0 : Hid (Below w.heap.size w x0) := by rw [← hx0]; exact (Below.refl _ _).alloc (Nat.le_refl _) _
  clear hx0
  have q0 := ne0
  go_enter Tryz.func78, Tryz.ntmps78
  go_wp2_with fail
  rw [HW0.out]
  refine (wordOf0 dk di S.cn S.sn dt S.cookie S.proof de dq S.body S.tag h1 h2 h3 h4 h5 h6 h7 h8 x0).mono ?_
  rintro e x1 ⟨rfl, b1⟩
  have B1 : Hid (Below w.heap.size w x1) := B0.out.trans (b1.mono B0.out.size)
  clear b1
  go_upto_region 2 with fail
  go_quiet (fail)
  go_wp2
  go_ret
  exact ⟨by simp, below_drewN B1.out _⟩

set_option maxRecDepth 100000 in
theorem implFrameOk (S : FrS) (D : FrD) (w : World) (h : FrRd w S D) :
    Calls Tryz.prog 78 #[frV D S] w fun e w' => e = .returned (.bool (frameOk D)) ∧ Below w.heap.size w w' := by
  obtain ⟨dk, di, lcn, lsn, dt, lco, lpr, de, dq, lbo, lta⟩ := D
  have hcn : S.cn.n = lcn.length := h.cn.len
  have hsn : S.sn.n = lsn.length := h.sn.len
  have hco : S.cookie.n = lco.length := h.cookie.len
  have hpr : S.proof.n = lpr.length := h.proof.len
  have hbo : S.body.n = lbo.length := h.body.len
  have hta : S.tag.n = lta.length := h.tag.len
  show Calls Tryz.prog 78 #[.agg #[.int .i64 dk, .int .i64 di, .slice S.cn.a S.cn.n S.cn.c, .slice S.sn.a S.sn.n S.sn.c, .int .i64 dt, .slice S.cookie.a S.cookie.n S.cookie.c, .slice S.proof.a S.proof.n S.proof.c, .int .i64 de, .int .i64 dq, .slice S.body.a S.body.n S.body.c, .slice S.tag.a S.tag.n S.tag.c]] w _
  by_cases k1 : dk = 1
  · subst k1
    have := implOk1 S di lcn lsn dt lco lpr de dq lbo lta w h
    rw [hcn, ok1] at this
    rw [hcn]
    exact this
  by_cases k2 : dk = 2
  · subst k2
    have := implOk2 S di lcn lsn dt lco lpr de dq lbo lta w h
    rw [hcn, hsn, hco, ok2] at this
    rw [hcn, hsn, hco]
    exact this
  by_cases k3 : dk = 3
  · subst k3
    have := implOk3 S di lcn lsn dt lco lpr de dq lbo lta w h
    rw [hcn, hsn, hco, hpr, ok3] at this
    rw [hcn, hsn, hco, hpr]
    exact this
  by_cases k4 : dk = 4
  · subst k4
    have := implOk4 S di lcn lsn dt lco lpr de dq lbo lta w h
    rw [hsn, hbo, hta, ok4] at this
    rw [hsn, hbo, hta]
    exact this
  by_cases k5 : dk = 5
  · subst k5
    have := implOk5 S di lcn lsn dt lco lpr de dq lbo lta w h
    rw [hsn, hbo, hta, ok5] at this
    rw [hsn, hbo, hta]
    exact this
  by_cases k6 : dk = 6
  · subst k6
    have := implOk6 S di lcn lsn dt lco lpr de dq lbo lta w h
    rw [hsn, hbo, hta, ok6] at this
    rw [hsn, hbo, hta]
    exact this
  by_cases k7 : dk = 7
  · subst k7
    have := implOk7 S di lcn lsn dt lco lpr de dq lbo lta w h
    rw [hsn, hbo, hta, ok7] at this
    rw [hsn, hbo, hta]
    exact this
  by_cases k8 : dk = 8
  · subst k8
    have := implOk8 S di lcn lsn dt lco lpr de dq lbo lta w h
    rw [hsn, hbo, hta, ok8] at this
    rw [hsn, hbo, hta]
    exact this
  have hn : frameOk ⟨dk, di, lcn, lsn, dt, lco, lpr, de, dq, lbo, lta⟩ = false := by
    cases hc : frameOk ⟨dk, di, lcn, lsn, dt, lco, lpr, de, dq, lbo, lta⟩ with
    | false => rfl
    | true => have := ok_kind _ hc; simp only at this; omega
  rw [hn]
  exact implOk0 S dk di dt de dq w (by simpa using k1) (by simpa using k2) (by simpa using k3) (by simpa using k4) (by simpa using k5) (by simpa using k6) (by simpa using k7) (by simpa using k8)

end Go.Proofs.YtpgapjdejelajaaGreatDoor.FrO2

namespace Go.Proofs.YtpgapjdejelajaaGreatDoor.FrQ3
open Go.RowKit Go.Proofs.YtpgapjdejelajaaGreatDoor.Mem Go.Proofs.YtpgapjdejelajaaGreatDoor.App Go.Proofs.YtpgapjdejelajaaGreatDoor.Blk Go.Proofs.YtpgapjdejelajaaGreatDoor.Words Go.Proofs.YtpgapjdejelajaaGreatDoor.Zone Go.Proofs.YtpgapjdejelajaaGreatDoor.Res Go.Proofs.YtpgapjdejelajaaGreatDoor.FrZ Go.Proofs.YtpgapjdejelajaaGreatDoor.FrP Go.Proofs.YtpgapjdejelajaaGreatDoor.FrB Go.Proofs.YtpgapjdejelajaaGreatDoor.FrT Go.Proofs.YtpgapjdejelajaaGreatDoor.FrW Go.Proofs.YtpgapjdejelajaaGreatDoor.FrW2 Go.Proofs.YtpgapjdejelajaaGreatDoor.FrW3 Go.Proofs.YtpgapjdejelajaaGreatDoor.FrQ Go.Proofs.YtpgapjdejelajaaGreatDoor.FrQ2 Go.Proofs.YtpgapjdejelajaaGreatDoor.FrO2

set_option maxRecDepth 100000 in
theorem putN_one (x : Int) (h0 : 0 ≤ x) (h1 : x ≤ 255) : putN x 1 = [x] := by
  show num x 1 = [x]
  show [x / 2 ^ (8 * 0) % 256] = [x]
  congr 1
  simp
  omega
set_option maxRecDepth 100000 in
theorem short_ok (D : FrD) (h : frameOk D = true) : FrShort D 100 := by
  obtain ⟨h1, h2, h3, h4, h5, h6⟩ := ok_lens D h
  exact ⟨by omega, by omega, by omega, by omega, by omega, by omega⟩

set_option maxRecDepth 100000 in
theorem lay1 (D : FrD) (h : frameOk D = true) (k : D.kind = 1) : [] ++ putN 1 1 ++ putN D.id 1 ++ D.cn ++ List.replicate 20 0 = putF D := by
  rw [putF_1 D h (by rw [k]; rfl), k, putN_one 1 (by omega) (by omega), putN_one D.id (by have := ok_id1 D h (by rw [k]; rfl); omega) (by have := ok_id1 D h (by rw [k]; rfl); omega)]; rfl
set_option maxRecDepth 100000 in
theorem lay2 (D : FrD) (h : frameOk D = true) (k : D.kind = 2) : [] ++ putN 2 1 ++ D.cn ++ D.sn ++ putN D.tick 4 ++ D.cookie = putF D := by
  rw [putF_2 D h (by rw [k]; rfl) (by rw [k]; rfl), k]; rfl
set_option maxRecDepth 100000 in
theorem lay3 (D : FrD) (h : frameOk D = true) (k : D.kind = 3) : [] ++ putN 3 1 ++ putN D.id 1 ++ D.cn ++ D.sn ++ putN D.tick 4 ++ D.cookie ++ D.proof = putF D := by
  rw [putF_3 D h (by rw [k]; rfl) (by rw [k]; rfl) (by rw [k]; rfl), k, putN_one D.id (by have := ok_id3 D h (by rw [k]; rfl); omega) (by have := ok_id3 D h (by rw [k]; rfl); omega)]; rfl
set_option maxRecDepth 100000 in
theorem lay4 (D : FrD) (h : frameOk D = true) (k : D.kind = 4) : [] ++ putN 4 1 ++ D.sn ++ putN D.epoch 4 ++ putN D.seq 6 ++ D.tag ++ D.body = putF D := by
  rw [putF_s D h (by rw [k]; rfl) (by rw [k]; rfl) (by rw [k]; rfl), k]; rfl
set_option maxRecDepth 100000 in
theorem lay5 (D : FrD) (h : frameOk D = true) (k : D.kind = 5) : [] ++ putN 5 1 ++ D.sn ++ putN D.epoch 4 ++ putN D.seq 6 ++ D.tag ++ D.body = putF D := by
  rw [putF_s D h (by rw [k]; rfl) (by rw [k]; rfl) (by rw [k]; rfl), k]; rfl
set_option maxRecDepth 100000 in
theorem lay6 (D : FrD) (h : frameOk D = true) (k : D.kind = 6) : [] ++ putN 6 1 ++ D.sn ++ putN D.epoch 4 ++ putN D.seq 6 ++ D.tag ++ D.body = putF D := by
  rw [putF_s D h (by rw [k]; rfl) (by rw [k]; rfl) (by rw [k]; rfl), k]; rfl
set_option maxRecDepth 100000 in
theorem lay7 (D : FrD) (h : frameOk D = true) (k : D.kind = 7) : [] ++ putN 7 1 ++ D.sn ++ putN D.epoch 4 ++ putN D.seq 6 ++ D.tag ++ D.body = putF D := by
  rw [putF_s D h (by rw [k]; rfl) (by rw [k]; rfl) (by rw [k]; rfl), k]; rfl
set_option maxRecDepth 100000 in
theorem lay8 (D : FrD) (h : frameOk D = true) (k : D.kind = 8) : [] ++ putN 8 1 ++ D.sn ++ putN D.epoch 4 ++ putN D.seq 6 ++ D.tag ++ D.body = putF D := by
  rw [putF_s D h (by rw [k]; rfl) (by rw [k]; rfl) (by rw [k]; rfl), k]; rfl

end Go.Proofs.YtpgapjdejelajaaGreatDoor.FrQ3

namespace Go.Proofs.YtpgapjdejelajaaGreatDoor.SlP
open Go.RowKit Go.Proofs.YtpgapjdejelajaaGreatDoor.Mem Go.Proofs.YtpgapjdejelajaaGreatDoor.App Go.Proofs.YtpgapjdejelajaaGreatDoor.Words Go.Proofs.YtpgapjdejelajaaGreatDoor.FrZ Go.Proofs.YtpgapjdejelajaaGreatDoor.FrP Go.Proofs.YtpgapjdejelajaaGreatDoor.FrG Go.Proofs.YtpgapjdejelajaaGreatDoor.Get

/-- Whether there is a head of these. -/
def headOk (role : Int) (n : Int) (epoch seq : Int) : Bool := isIn role 0 1 && ((n == 12) && (isIn epoch 0 4294967295 && isIn seq 0 281474976710655))
set_option maxRecDepth 100000 in
theorem headOk_iff (role n epoch seq : Int) : headOk role n epoch seq = true ↔ (0 ≤ role ∧ role ≤ 1) ∧ n = 12 ∧ (0 ≤ epoch ∧ epoch ≤ 4294967295) ∧ (0 ≤ seq ∧ seq ≤ 281474976710655) := by
  unfold headOk isIn; simp [and_assoc]
/-- The head. -/
def headL (role : Int) (sn : List Int) (epoch seq : Int) : List Int := if headOk role sn.length epoch seq = true then [role] ++ sn ++ num epoch 4 ++ num seq 6 else []
set_option maxRecDepth 100000 in
theorem headL_no (role : Int) (sn : List Int) (epoch seq : Int) (h : headOk role sn.length epoch seq = false) : headL role sn epoch seq = [] := by unfold headL; rw [if_neg (by rw [h]; simp)]
set_option maxRecDepth 100000 in
theorem headL_yes (role : Int) (sn : List Int) (epoch seq : Int) (h : headOk role sn.length epoch seq = true) : headL role sn epoch seq = [role] ++ sn ++ num epoch 4 ++ num seq 6 := by unfold headL; rw [if_pos h]
set_option maxRecDepth 100000 in
theorem headL_len (role : Int) (sn : List Int) (epoch seq : Int) (h : headOk role sn.length epoch seq = true) : (headL role sn epoch seq).length = 23 := by
  rw [headL_yes role sn epoch seq h]
  have := ((headOk_iff _ _ _ _).1 h).2.1
  simp [num_length]; omega
set_option maxRecDepth 100000 in
theorem headL_le (role : Int) (sn : List Int) (epoch seq : Int) : (headL role sn epoch seq).length ≤ 23 := by
  by_cases h : headOk role sn.length epoch seq = true
  · rw [headL_len role sn epoch seq h]; exact Nat.le_refl _
  · rw [headL_no role sn epoch seq (by simpa using h)]; simp
set_option maxRecDepth 100000 in
theorem bytes_app {a b : List Int} (ha : Bytes a) (hb : Bytes b) : Bytes (a ++ b) := fun z hz => by
  rcases List.mem_append.1 hz with h | h
  · exact ha z h
  · exact hb z h
set_option maxRecDepth 100000 in
theorem bytes_one {z : Int} (h0 : 0 ≤ z) (h1 : z ≤ 255) : Bytes [z] := fun y hy => by simp at hy; omega
set_option maxRecDepth 100000 in
theorem headL_bytes (role : Int) (sn : List Int) (epoch seq : Int) (hb : Bytes sn) : Bytes (headL role sn epoch seq) := by
  by_cases h : headOk role sn.length epoch seq = true
  · rw [headL_yes role sn epoch seq h]
    have h1 := ((headOk_iff _ _ _ _).1 h).1
    exact bytes_app (bytes_app (bytes_app (bytes_one h1.1 (by omega)) hb) (num_bytes _ _)) (num_bytes _ _)
  · rw [headL_no role sn epoch seq (by simpa using h)]; exact fun z hz => by cases hz
set_option maxRecDepth 100000 in
theorem headL_nil (role : Int) (sn : List Int) (epoch seq : Int) : ((headL role sn epoch seq).length = 0) ↔ headOk role sn.length epoch seq = false := by
  constructor
  · intro h
    by_cases k : headOk role sn.length epoch seq = true
    · rw [headL_len _ _ _ _ k] at h; cases h
    · simpa using k
  · intro h; rw [headL_no _ _ _ _ h]; rfl

/-- Whether a frame's tag can be made. -/
def canTag (role : Int) (D : FrD) : Bool := isIn role 0 1 && (isIn D.kind 4 8 && frameOk D)
/-- What the tag is of. -/
def tagIn (role : Int) (D : FrD) : List Int := if canTag role D = true then [116] ++ headL role D.sn D.epoch D.seq ++ [D.kind] ++ D.body else []
set_option maxRecDepth 100000 in
theorem tagIn_no (role : Int) (D : FrD) (h : canTag role D = false) : tagIn role D = [] := by unfold tagIn; rw [if_neg (by rw [h]; simp)]
set_option maxRecDepth 100000 in
theorem tagIn_yes (role : Int) (D : FrD) (h : canTag role D = true) : tagIn role D = [116] ++ headL role D.sn D.epoch D.seq ++ [D.kind] ++ D.body := by unfold tagIn; rw [if_pos h]
set_option maxRecDepth 100000 in
theorem canTag_parts {role : Int} {D : FrD} (h : canTag role D = true) : (0 ≤ role ∧ role ≤ 1) ∧ (4 ≤ D.kind ∧ D.kind ≤ 8) ∧ frameOk D = true := by
  unfold canTag isIn at h; simp at h; exact ⟨h.1, h.2.1, h.2.2⟩
set_option maxRecDepth 100000 in
theorem canTag_of {role : Int} {D : FrD} (h1 : 0 ≤ role ∧ role ≤ 1) (h2 : 4 ≤ D.kind ∧ D.kind ≤ 8) (h3 : frameOk D = true) : canTag role D = true := by
  unfold canTag isIn; simp [h1, h2, h3]
set_option maxRecDepth 100000 in
theorem canTag_eq (role : Int) (D : FrD) : (isIn role 0 1 && (frameOk D && isIn D.kind 4 8)) = canTag role D := by
  unfold canTag; cases isIn role 0 1 <;> cases frameOk D <;> cases isIn D.kind 4 8 <;> rfl
set_option maxRecDepth 100000 in
/-- A right sealed frame's parts. -/
theorem sealed_parts {D : FrD} (hk : 4 ≤ D.kind ∧ D.kind ≤ 8) : frameOk D = true ↔ D.id = 0 ∧ D.cn = [] ∧ D.sn.length = 12 ∧ D.tick = 0 ∧ D.cookie = [] ∧ D.proof = [] ∧ (0 ≤ D.epoch ∧ D.epoch ≤ 4294967295) ∧ (0 ≤ D.seq ∧ D.seq ≤ 281474976710655) ∧ bodyOk D.kind D.body.length = true ∧ D.tag.length = 16 := by
  unfold frameOk okS
  rw [if_pos (isIn_yes hk)]
  unfold isIn
  simp only [Bool.and_eq_true, beq_iff_eq, decide_eq_true_eq]
  constructor
  · rintro ⟨h1, h2, h3, h4, h5, h6, h7, h8, h9, h10⟩
    exact ⟨h1, List.length_eq_zero_iff.1 (by omega), by omega, h4, List.length_eq_zero_iff.1 (by omega), List.length_eq_zero_iff.1 (by omega), h7, h8, h9, by omega⟩
  · rintro ⟨h1, h2, h3, h4, h5, h6, h7, h8, h9, h10⟩
    exact ⟨h1, by rw [h2]; rfl, by omega, h4, by rw [h5]; rfl, by rw [h6]; rfl, h7, h8, h9, by omega⟩
set_option maxRecDepth 100000 in
theorem canTag_head {role : Int} {D : FrD} (h : canTag role D = true) : headOk role D.sn.length D.epoch D.seq = true := by
  obtain ⟨h1, h2, h3⟩ := canTag_parts h
  obtain ⟨_, _, h6, _, _, _, h7, h8, _, _⟩ := (sealed_parts h2).1 h3
  exact (headOk_iff _ _ _ _).2 ⟨h1, by omega, h7, h8⟩
set_option maxRecDepth 100000 in
theorem bodyOk_le {k n : Int} (h : bodyOk k n = true) : n ≤ 40 := by
  unfold bodyOk at h
  split at h
  · simpa using h
  · split at h <;> simp at h <;> omega
set_option maxRecDepth 100000 in
theorem canTag_body {role : Int} {D : FrD} (h : canTag role D = true) : D.body.length ≤ 40 := by
  obtain ⟨h1, h2, h3⟩ := canTag_parts h
  obtain ⟨_, _, h6, _, _, _, h7, h8, h9, _⟩ := (sealed_parts h2).1 h3
  have := bodyOk_le h9; omega
set_option maxRecDepth 100000 in
theorem tagIn_len {role : Int} {D : FrD} (h : canTag role D = true) : (tagIn role D).length = 25 + D.body.length := by
  rw [tagIn_yes role D h]
  have := headL_len _ _ _ _ (canTag_head h)
  simp [this]; omega
set_option maxRecDepth 100000 in
theorem tagIn_le (role : Int) (D : FrD) : (tagIn role D).length ≤ 65 := by
  by_cases h : canTag role D = true
  · rw [tagIn_len h]; have := canTag_body h; omega
  · rw [tagIn_no role D (by simpa using h)]; simp
set_option maxRecDepth 100000 in
theorem tagIn_bytes (role : Int) (D : FrD) (h1 : Bytes D.sn) (h2 : Bytes D.body) : Bytes (tagIn role D) := by
  by_cases h : canTag role D = true
  · rw [tagIn_yes role D h]
    have hk := (canTag_parts h).2.1
    exact bytes_app (bytes_app (bytes_app (bytes_one (by omega) (by omega)) (headL_bytes _ _ _ _ h1)) (bytes_one (by omega) (by omega))) h2
  · rw [tagIn_no role D (by simpa using h)]; exact fun z hz => by cases hz
set_option maxRecDepth 100000 in
theorem tagIn_nil (role : Int) (D : FrD) : ((tagIn role D).length = 0) ↔ canTag role D = false := by
  constructor
  · intro h
    by_cases k : canTag role D = true
    · rw [tagIn_len k] at h; omega
    · simpa using k
  · intro h; rw [tagIn_no _ _ h]; rfl
set_option maxRecDepth 100000 in
/-- Heads of unlike parts are unlike. -/
theorem headL_inj {r r' : Int} {sn sn' : List Int} {e e' s s' : Int} (h : headOk r sn.length e s = true) (h' : headOk r' sn'.length e' s' = true) (he : headL r sn e s = headL r' sn' e' s') : r = r' ∧ sn = sn' ∧ e = e' ∧ s = s' := by
  rw [headL_yes _ _ _ _ h, headL_yes _ _ _ _ h'] at he
  obtain ⟨_, a1, a2, a3⟩ := (headOk_iff _ _ _ _).1 h
  obtain ⟨_, b1, b2, b3⟩ := (headOk_iff _ _ _ _).1 h'
  have l1 : sn.length = sn'.length := by omega
  rw [List.append_assoc, List.append_assoc, List.append_assoc, List.append_assoc] at he
  obtain ⟨h0, hA⟩ := List.append_inj he rfl
  obtain ⟨h1, hB⟩ := List.append_inj hA l1
  obtain ⟨he1, he2⟩ := List.append_inj hB (by rw [num_length, num_length])
  have h2 : r = r' := by simpa using h0
  exact ⟨h2, h1, num_inj e e' 4 a2.1 (by omega) b2.1 (by omega) he1, num_inj s s' 6 a3.1 (by omega) b3.1 (by omega) he2⟩
end Go.Proofs.YtpgapjdejelajaaGreatDoor.SlP

namespace Go.Proofs.YtpgapjdejelajaaGreatDoor.FrSe
open Go.RowKit Go.Proofs.YtpgapjdejelajaaGreatDoor.Mem Go.Proofs.YtpgapjdejelajaaGreatDoor.Words Go.Proofs.YtpgapjdejelajaaGreatDoor.Zone Go.Proofs.YtpgapjdejelajaaGreatDoor.FrT Go.Proofs.YtpgapjdejelajaaGreatDoor.FrW3

end Go.Proofs.YtpgapjdejelajaaGreatDoor.FrSe


namespace Go.Proofs.YtpgapjdejelajaaGreatDoor.SlI
open Go.RowKit Go.Proofs.YtpgapjdejelajaaGreatDoor.Mem Go.Proofs.YtpgapjdejelajaaGreatDoor.App Go.Proofs.YtpgapjdejelajaaGreatDoor.Blk Go.Proofs.YtpgapjdejelajaaGreatDoor.Words Go.Proofs.YtpgapjdejelajaaGreatDoor.Zone Go.Proofs.YtpgapjdejelajaaGreatDoor.Res Go.Proofs.YtpgapjdejelajaaGreatDoor.FrZ Go.Proofs.YtpgapjdejelajaaGreatDoor.FrP Go.Proofs.YtpgapjdejelajaaGreatDoor.FrG Go.Proofs.YtpgapjdejelajaaGreatDoor.FrQ Go.Proofs.YtpgapjdejelajaaGreatDoor.SlP Go.Proofs.YtpgapjdejelajaaGreatDoor.FrW Go.Proofs.YtpgapjdejelajaaGreatDoor.FrQ2 Go.Proofs.YtpgapjdejelajaaGreatDoor.FrQ3 Go.Proofs.YtpgapjdejelajaaGreatDoor.FrO2 Go.Proofs.YtpgapjdejelajaaGreatDoor.FrSe

set_option maxRecDepth 100000 in
theorem isKey (a : Option Addr) (n c : Nat) (w : World) :
    Calls Tryz.prog 39 #[.slice a n c] w fun e w' => e = .returned (.bool ((n : Int) == 32)) ∧ w = w' := by
  go_enter Tryz.func39, Tryz.ntmps39
  go_wp2
  go_ret
  exact ⟨by simp, rfl⟩
set_option maxRecDepth 100000 in
theorem new_nil {w x : World} (b : Below w.heap.size w x) : New w [] (.returned (.slice (some ⟨x.heap.size, 0, none⟩) 0 0)) (x.alloc (.cells #[] 5)) :=
  ⟨x.heap.size, 0, 0, rfl, rfl, b.size, ⟨Nat.le_refl _, by unfold maxLen; omega, #[], heap_alloc_new x _, rfl, rfl⟩, b.alloc b.size _⟩
set_option maxRecDepth 100000 in
theorem new_to {w : World} {l l' : List Int} {e : Ending} {w' : World} (h : New w l e w') (hl : l = l') : New w l' e w' := hl ▸ h
set_option maxRecDepth 100000 in
theorem lay_head {role : Int} {l : List Int} {epoch seq : Int} (h : headOk role l.length epoch seq = true) : [] ++ putN role 1 ++ l ++ putN epoch 4 ++ putN seq 6 = headL role l epoch seq := by
  rw [headL_yes _ _ _ _ h]
  have h1 := ((headOk_iff _ _ _ _).1 h).1
  rw [putN_one role h1.1 (by omega)]
  rfl

set_option maxRecDepth 100000 in
theorem rd_one8 {w : World} {g : Nat} (k : Blk w g 5 [.int .u8 116]) : SRd w ⟨some ⟨g, 0, none⟩, 1, 1⟩ [116] :=
  ⟨rfl, (fun i hi => by
    have : i = 0 := by simpa using hi
    subst this
    exact ⟨g, 0, rfl, k.lt, k.cell 0 rfl⟩), (fun e => by cases e), Nat.le_refl _, bytes_one (by omega) (by omega)⟩
set_option maxRecDepth 100000 in
theorem lay_tag {role : Int} {D : FrD} (h : canTag role D = true) : [116] ++ headL role D.sn D.epoch D.seq ++ putN D.kind 1 ++ D.body = tagIn role D := by
  rw [tagIn_yes _ _ h]
  have hk := (canTag_parts h).2.1
  rw [putN_one D.kind (by omega) (by omega)]
end Go.Proofs.YtpgapjdejelajaaGreatDoor.SlI

namespace Go.Proofs.YtpgapjdejelajaaGreatDoor.SlQ
open Go.RowKit Go.Proofs.YtpgapjdejelajaaGreatDoor.Mem Go.Proofs.YtpgapjdejelajaaGreatDoor.App Go.Proofs.YtpgapjdejelajaaGreatDoor.Words Go.Proofs.YtpgapjdejelajaaGreatDoor.FrZ Go.Proofs.YtpgapjdejelajaaGreatDoor.FrP Go.Proofs.YtpgapjdejelajaaGreatDoor.FrG Go.Proofs.YtpgapjdejelajaaGreatDoor.KdfP Go.Proofs.YtpgapjdejelajaaGreatDoor.MacP Go.Proofs.YtpgapjdejelajaaGreatDoor.SlP

/-- Whether a frame of these is sealed: key of k bytes, name of n, text of p. -/
def sealOk (k : Int) (role n epoch seq kind p : Int) : Bool := (k == 32) && (headOk role n epoch seq && (isIn kind 4 8 && bodyOk kind p))
set_option maxRecDepth 100000 in
theorem sealOk_iff (k role n epoch seq kind p : Int) : sealOk k role n epoch seq kind p = true ↔ k = 32 ∧ headOk role n epoch seq = true ∧ (4 ≤ kind ∧ kind ≤ 8) ∧ bodyOk kind p = true := by
  unfold sealOk isIn; simp [and_assoc]
/-- The frame as it is tagged: with whatever tag of 16 bytes. -/
def draftD (sn : List Int) (epoch seq kind : Int) (body tag : List Int) : FrD := ⟨kind, 0, [], sn, 0, [], [], epoch, seq, body, tag⟩
set_option maxRecDepth 100000 in
theorem draft_tagIn (role : Int) (sn : List Int) (epoch seq kind : Int) (body tag tag' : List Int) (h : tag.length = tag'.length) : tagIn role (draftD sn epoch seq kind body tag) = tagIn role (draftD sn epoch seq kind body tag') := by
  have e : canTag role (draftD sn epoch seq kind body tag) = canTag role (draftD sn epoch seq kind body tag') := by
    unfold canTag frameOk draftD; simp only [h]
  unfold tagIn; rw [e]; rfl
set_option maxRecDepth 100000 in
theorem draft_can (role : Int) (sn : List Int) (epoch seq kind : Int) (body tag : List Int) (ht : tag.length = 16) : canTag role (draftD sn epoch seq kind body tag) = (headOk role sn.length epoch seq && (isIn kind 4 8 && bodyOk kind body.length)) := by
  rw [Bool.eq_iff_iff]
  constructor
  · intro h
    obtain ⟨h1, h2, h3⟩ := canTag_parts h
    have h4 := canTag_head h
    obtain ⟨_, _, h6, _, _, _, h7, h8, h9, _⟩ := (sealed_parts h2).1 h3
    rw [Bool.and_eq_true, Bool.and_eq_true]
    exact ⟨h4, isIn_yes h2, h9⟩
  · intro h
    rw [Bool.and_eq_true, Bool.and_eq_true] at h
    obtain ⟨h1, h2, h3⟩ := h
    obtain ⟨r1, r2, r3, r4⟩ := (headOk_iff _ _ _ _).1 h1
    have hk : 4 ≤ kind ∧ kind ≤ 8 := by unfold isIn at h2; simpa using h2
    exact canTag_of r1 hk ((sealed_parts (D := draftD sn epoch seq kind body tag) hk).2 ⟨rfl, rfl, by show sn.length = 12; omega, rfl, rfl, rfl, r3, r4, h3, ht⟩)
/-- What is sealed. -/
def sealD (key : List Int) (role : Int) (sn : List Int) (epoch seq kind : Int) (plain : List Int) : FrD :=
  draftD sn epoch seq kind (mixI key (headL role sn epoch seq) plain) (tagI key (tagIn role (draftD sn epoch seq kind (mixI key (headL role sn epoch seq) plain) (List.replicate 16 0))))
/-- Whether it is sealed, and what. -/
def sealB (key : List Int) (role : Int) (sn : List Int) (epoch seq kind : Int) (plain : List Int) : Bool := sealOk key.length role sn.length epoch seq kind plain.length
def sealF (key : List Int) (role : Int) (sn : List Int) (epoch seq kind : Int) (plain : List Int) : FrD := if sealB key role sn epoch seq kind plain = true then sealD key role sn epoch seq kind plain else zeroF
/-- Whether it is opened, and what it was. -/
def unsealB (key : List Int) (role : Int) (D : FrD) : Bool := ((key.length : Int) == 32) && (canTag role D && decide (D.tag = tagI key (tagIn role D)))
def unsealL (key : List Int) (role : Int) (D : FrD) : List Int := if unsealB key role D = true then mixI key (headL role D.sn D.epoch D.seq) D.body else []

set_option maxRecDepth 100000 in
theorem seal_may {key : List Int} {role : Int} {sn : List Int} {epoch seq kind : Int} {plain : List Int} (h : sealB key role sn epoch seq kind plain = true) :
    key.length = 32 ∧ headOk role sn.length epoch seq = true ∧ (4 ≤ kind ∧ kind ≤ 8) ∧ bodyOk kind plain.length = true ∧ plain.length ≤ 40 ∧ mayStr key (headL role sn epoch seq) (plain.length : Int) = true := by
  obtain ⟨h1, h2, h3, h4⟩ := (sealOk_iff _ _ _ _ _ _ _).1 h
  have h5 := bodyOk_le h4
  have h6 := headL_le role sn epoch seq
  exact ⟨by omega, h2, h3, h4, by omega, (mayStr_iff _ _ _).2 ⟨by omega, by omega, by omega, by omega⟩⟩
set_option maxRecDepth 100000 in
theorem seal_body {key : List Int} {role : Int} {sn : List Int} {epoch seq kind : Int} {plain : List Int} (h : sealB key role sn epoch seq kind plain = true) : (mixI key (headL role sn epoch seq) plain).length = plain.length := by
  exact mixI_len _ _ _ (seal_may h).2.2.2.2.2
set_option maxRecDepth 100000 in
theorem seal_can {key : List Int} {role : Int} {sn : List Int} {epoch seq kind : Int} {plain : List Int} (tag : List Int) (ht : tag.length = 16) (h : sealB key role sn epoch seq kind plain = true) : canTag role (draftD sn epoch seq kind (mixI key (headL role sn epoch seq) plain) tag) = true := by
  rw [draft_can _ _ _ _ _ _ _ ht, seal_body h]
  obtain ⟨_, h2, h3, h4, _⟩ := seal_may h
  rw [h2, isIn_yes h3, h4]; rfl
set_option maxRecDepth 100000 in
theorem seal_tag_len {key : List Int} {role : Int} {sn : List Int} {epoch seq kind : Int} {plain : List Int} (h : sealB key role sn epoch seq kind plain = true) : (sealD key role sn epoch seq kind plain).tag.length = 16 := by
  exact tagI_len _ _ (by have := (seal_may h).1; omega) (by have := tagIn_le role (draftD sn epoch seq kind (mixI key (headL role sn epoch seq) plain) (List.replicate 16 0)); omega)
set_option maxRecDepth 100000 in
theorem seal_canD {key : List Int} {role : Int} {sn : List Int} {epoch seq kind : Int} {plain : List Int} (h : sealB key role sn epoch seq kind plain = true) : canTag role (sealD key role sn epoch seq kind plain) = true := seal_can _ (seal_tag_len h) h
set_option maxRecDepth 100000 in
theorem seal_ok {key : List Int} {role : Int} {sn : List Int} {epoch seq kind : Int} {plain : List Int} (h : sealB key role sn epoch seq kind plain = true) : frameOk (sealD key role sn epoch seq kind plain) = true := (canTag_parts (seal_canD h)).2.2
set_option maxRecDepth 100000 in
theorem seal_tag {key : List Int} {role : Int} {sn : List Int} {epoch seq kind : Int} {plain : List Int} (h : sealB key role sn epoch seq kind plain = true) : (sealD key role sn epoch seq kind plain).tag = tagI key (tagIn role (sealD key role sn epoch seq kind plain)) := by
  exact congrArg (tagI key) (draft_tagIn role sn epoch seq kind _ _ _ (by rw [List.length_replicate]; exact (seal_tag_len h).symm))
set_option maxRecDepth 100000 in
theorem seal_unseal {key : List Int} {role : Int} {sn : List Int} {epoch seq kind : Int} {plain : List Int} (h : sealB key role sn epoch seq kind plain = true) : unsealB key role (sealD key role sn epoch seq kind plain) = true := by
  unfold unsealB
  rw [seal_canD h, decide_eq_true (seal_tag h)]
  have := (seal_may h).1
  simp [this]
set_option maxRecDepth 100000 in
theorem seal_back {key : List Int} {role : Int} {sn : List Int} {epoch seq kind : Int} {plain : List Int} (hb : Bytes plain) (h : sealB key role sn epoch seq kind plain = true) : unsealL key role (sealD key role sn epoch seq kind plain) = plain := by
  unfold unsealL
  rw [if_pos (seal_unseal h)]
  exact mixI_twice _ _ _ hb (seal_may h).2.2.2.2.2
set_option maxRecDepth 100000 in
theorem sealF_yes {key : List Int} {role : Int} {sn : List Int} {epoch seq kind : Int} {plain : List Int} (h : sealB key role sn epoch seq kind plain = true) : sealF key role sn epoch seq kind plain = sealD key role sn epoch seq kind plain := by unfold sealF; rw [if_pos h]
set_option maxRecDepth 100000 in
theorem sealF_no {key : List Int} {role : Int} {sn : List Int} {epoch seq kind : Int} {plain : List Int} (h : sealB key role sn epoch seq kind plain = false) : sealF key role sn epoch seq kind plain = zeroF := by unfold sealF; rw [if_neg (by rw [h]; simp)]
set_option maxRecDepth 100000 in
theorem unsealL_yes {key : List Int} {role : Int} {D : FrD} (h : unsealB key role D = true) : unsealL key role D = mixI key (headL role D.sn D.epoch D.seq) D.body := by unfold unsealL; rw [if_pos h]
set_option maxRecDepth 100000 in
theorem unsealL_no {key : List Int} {role : Int} {D : FrD} (h : unsealB key role D = false) : unsealL key role D = [] := by unfold unsealL; rw [if_neg (by rw [h]; simp)]
set_option maxRecDepth 100000 in
theorem unseal_parts {key : List Int} {role : Int} {D : FrD} (h : unsealB key role D = true) : key.length = 32 ∧ canTag role D = true ∧ D.tag = tagI key (tagIn role D) := by
  unfold unsealB at h; simp at h; exact ⟨by omega, h.2.1, h.2.2⟩
set_option maxRecDepth 100000 in
theorem mixI_bytes (k h b : List Int) (hb : Bytes b) : Bytes (mixI k h b) := by
  by_cases e : mayStr k h (b.length : Int) = true
  · rw [mixI_of _ _ _ e]; exact xors_bytes hb (strI_bytes _ _ _)
  · rw [mixI_no _ _ _ (by simpa using e)]; exact fun z hz => by cases hz
set_option maxRecDepth 100000 in
theorem unsealL_le (key : List Int) (role : Int) (D : FrD) : (unsealL key role D).length ≤ 200 := by
  unfold unsealL; split
  · exact mixI_le _ _ _
  · simp
set_option maxRecDepth 100000 in
theorem sealD_short {key : List Int} {role : Int} {sn : List Int} {epoch seq kind : Int} {plain : List Int} (h : sealB key role sn epoch seq kind plain = true) : FrShort (sealD key role sn epoch seq kind plain) 100 := FrQ3.short_ok _ (seal_ok h)
set_option maxRecDepth 100000 in
theorem zeroF_short (n : Nat) : FrShort zeroF n := ⟨Nat.zero_le _, Nat.zero_le _, Nat.zero_le _, Nat.zero_le _, Nat.zero_le _, Nat.zero_le _⟩
set_option maxRecDepth 100000 in
theorem short_le {D : FrD} {n m : Nat} (h : FrShort D n) (hm : n ≤ m) : FrShort D m := ⟨by have := h.cn; omega, by have := h.sn; omega, by have := h.cookie; omega, by have := h.proof; omega, by have := h.body; omega, by have := h.tag; omega⟩
set_option maxRecDepth 100000 in
theorem sealF_short (key : List Int) (role : Int) (sn : List Int) (epoch seq kind : Int) (plain : List Int) : FrShort (sealF key role sn epoch seq kind plain) 100 := by
  by_cases h : sealB key role sn epoch seq kind plain = true
  · rw [sealF_yes h]; exact sealD_short h
  · rw [sealF_no (by simpa using h)]; exact zeroF_short _
end Go.Proofs.YtpgapjdejelajaaGreatDoor.SlQ

namespace Go.Proofs.YtpgapjdejelajaaGreatDoor.Ranges
open Go.RowKit

/-- All cells lie as they lay. -/
structure CellsKept (W W' : World) : Prop where
  size : W.heap.size ≤ W'.heap.size
  same : ∀ (k : Nat) (o : Obj), W.heap[k]? = some o → o.isCells = true → W'.heap[k]? = some o

set_option maxRecDepth 100000 in
theorem CellsKept.of_below {W W' : World} (h : Below W.heap.size W W') : CellsKept W W' :=
  ⟨h.size, fun k _ hk _ => (h.block k (Array.getElem?_eq_some_iff.1 hk).1).trans hk⟩
set_option maxRecDepth 100000 in
theorem CellsKept.put {W : World} {l : Nat} {o : Obj} (o' : Obj) (h : W.heap[l]? = some o) (ho : o.isCells = false) : CellsKept W (W.putObj l o') :=
  ⟨by simp, fun k x hk hx => by
    have e : k ≠ l := by rintro rfl; rw [h] at hk; cases hk; rw [ho] at hx; cases hx
    exact (World.putObj_heap_other e).trans hk⟩
set_option maxRecDepth 100000 in
theorem CellsKept.trans {A B C : World} (h : CellsKept A B) (k : CellsKept B C) : CellsKept A C := ⟨Nat.le_trans h.size k.size, fun i o hi ho => k.same i o (h.same i o hi ho) ho⟩
set_option maxRecDepth 100000 in
theorem below_put {n₀ l : Nat} {u W : World} {o : Obj} (o' : Obj) (h : Below n₀ u W) (hl : n₀ ≤ l) (ho : W.heap[l]? = some o) : Below n₀ u (W.putObj l o') :=
  h.grown (grownBy_putObj' W l o') (by have := (Array.getElem?_eq_some_iff.1 ho).1; omega) (fun k e => by cases e; exact hl)

/-- What speaks of cells, and of what lay below n₀, alone. -/
def Celled (n₀ : Nat) (p : World → Prop) : Prop := ∀ W W', p W → CellsKept W W' → Below n₀ W W' → p W'

/-- The iterator's word: called in W with any yield whose rounds keep U and carry J on by one, given what G says of the value, it hands over N values, or fewer if a round said no more. -/
def Feeds (F : Fence) (n : Nat) (P : Program) (gf : Nat) (lb : Array Value) (N : Nat) (G : Nat → Value → World → Prop) (U : World → Prop) (W : World) : Prop :=
  ∀ (l : Nat) (J : Nat → World → Prop) (Jx : World → Prop), (∀ i A B, J i A → Below A.heap.size A B → J i B) → (∀ i A, J i A → U A) →
    (∀ i v A, i < N → J i A → G i v A → YieldAt F (n - 1) P l #[v] A fun e B => (e = .returned (.bool true) ∧ J (i + 1) B) ∨ (e = .returned (.bool false) ∧ Jx B)) →
    J 0 W → CallsIn F n P gf (#[.func (.yield l) #[] #[]] ++ lb) W fun e B => (∃ v, e = .returned v) ∧ (J N B ∨ Jx B)

/-- How a round's body may be left. -/
def bodyPost (J : World → Prop) (Jx : Code → World → Prop) (A : World) : Exit → Act → World → Prop
  | .normal, _, B => KeepsOthers A B ∧ J B
  | .ret, _, B => KeepsOthers A B ∧ Jx .ret B
  | .exit id, _, B => KeepsOthers A B ∧ Jx (.exit id) B
  | .goto t, _, B => KeepsOthers A B ∧ Jx (.goto t) B
  | _, _, _ => False

set_option maxRecDepth 100000 in
theorem range_fed {F : Fence} {n : Nat} {P : Program} {g : Operand} {p : Tmp} {assign body : Code} {Q : Exit → Act → World → Prop} {a : Act} {w : World}
    (hro : F.round = none) (h1 : 1 ≤ n) {gf : Nat} {lb : Array Value} (hg : a.eval g = .func (.func gf) #[] lb) (hF : F.fn gf) (eg : ∀ args w, (callFunc gf args).run P w = .ok (.enter gf args) w)
    (N : Nat) (G : Nat → Value → World → Prop) (U : World → Prop) (hfeed : ∀ W, Feeds F (n - 1) P gf lb N G U W)
    (I : Nat → World → Prop) (Ix : Code → World → Prop) (hG : ∀ i v, Celled w.heap.size (G i v)) (hI : ∀ i, Celled w.heap.size (I i)) (hIx : ∀ c, Celled w.heap.size (Ix c)) (hU : ∀ i W, I i W → U W) (h0 : I 0 w) (a₁ : Value → Act)
    (hassign : ∀ (l : Nat) (v : Value) (W : World) (K : Act → World → Prop), K (a₁ v) W →
      assign.wpIn (F.inRound l) (n - 1 - 1) P (Exit.then K (fun _ _ _ => False)) { tmps := a.tmps.setIfInBounds p v, defers := [] } W)
    (hbody : ∀ (l i : Nat) (v : Value) (W : World), i < N → I i W → G i v W → body.wpIn (F.inRound l) (n - 1 - 1) P (bodyPost (I (i + 1)) Ix W) (a₁ v) W)
    (hdone : ∀ (D : Nat) (W : World), w.heap.size ≤ D → I N W → W.heap[D]? = some (.deferred (some [])) → Q .normal { a with defers := { target := .collected D, args := #[] } :: a.defers } W)
    (hstop : ∀ (D : Nat) (c : Code) (W : World), w.heap.size ≤ D → Ix c W → W.heap[D]? = some (.deferred (some [])) → c.wpIn F n P Q { a with defers := { target := .collected D, args := #[] } :: a.defers } W) :
    (Code.rangeFunc g #[p] assign body).wpIn F n P Q a w := by
  refine wpIn_rangeFunc fun fn hfn => ?_
  rw [hro]
  generalize hrec : (fun (st : LoopState) (pe : Option Code) => ({ state := st, pending := pe, fn, tmps := a.tmps, params := #[p], assign, body, defers := w.heap.size } : Loop)) = mk
  generalize hD : w.heap.size = D at *
  have hA := run_enterLoop_outer (P := P) (w := w) fn a.tmps #[p] assign body
  rw [hD] at hA
  generalize hW : (w.alloc (.deferred (some []))).alloc (.loop { state := .ready, pending := none, fn, tmps := a.tmps, params := #[p], assign, body, defers := D }) = W at hA
  have hl : W.heap[D + 1]? = some (.loop (mk .ready none)) := by
    have := World.alloc_heap_new (w.alloc (.deferred (some []))) (.loop (mk .ready none))
    rw [World.size_alloc, hD] at this
    rw [← hW, ← hrec]; rw [← hrec] at this; exact this
  have hd : W.heap[D]? = some (.deferred (some [])) := by
    rw [← hW, ← hD]; exact (Below.heap_alloc _ _ _ (by simp)).trans (World.alloc_heap_new w _)
  have hb : Below D w W := by rw [← hW, ← hD]; exact ((Below.refl _ w).alloc (Nat.le_refl _) _).alloc (by simp) _
  have hw0 : CellsKept w W := CellsKept.of_below (by rw [hD]; exact hb)
  refine ⟨D + 1, _, W, { target := .fn (.func gf) lb, args := #[.func (.yield (D + 1)) #[] #[]] }, W, gf, #[.func (.yield (D + 1)) #[] #[]] ++ lb, W, hA, ?_, ?_, ?_, fun _ => h1, ?_⟩
  · simp only [resolve, hg]; simp [go_sem]
  · intro f hf; simp [Target.leads] at hf; subst hf; exact hF
  · simp [invoke, go_sem, eg]
  refine (hfeed W (D + 1)
    (fun i A => I i A ∧ D ≤ A.heap.size ∧ A.heap[D + 1]? = some (.loop (mk .ready none)) ∧ A.heap[D]? = some (.deferred (some [])))
    (fun A => ∃ c, Ix c A ∧ D ≤ A.heap.size ∧ A.heap[D + 1]? = some (.loop (mk .done (some c))) ∧ A.heap[D]? = some (.deferred (some [])))
    ?_ (fun i A h => hU i A h.1) ?_ ⟨hI _ _ _ h0 hw0 hb, by rw [← hD]; exact hb.size, hl, hd⟩).mono ?_
  · rintro i A B ⟨q1, q2, q3, q4⟩ hAB
    have c1 := (Array.getElem?_eq_some_iff.1 q3).1
    have c2 := (Array.getElem?_eq_some_iff.1 q4).1
    exact ⟨hI _ _ _ q1 (CellsKept.of_below hAB) (hAB.mono (by omega)), Nat.le_trans q2 hAB.size, (hAB.block _ c1).trans q3, (hAB.block _ c2).trans q4⟩
  · rintro i v A hi ⟨q1, q2, q3, q4⟩ hv
    have lt1 := (Array.getElem?_eq_some_iff.1 q3).1
    have y := run_yield (P := P) (args := #[v]) q3 (by rw [← hrec]; rfl)
    refine ⟨fn, a.tmps.setIfInBounds p v, assign, body, ?_, roundIn_of_wpIn hfn (hassign _ v A _ ⟨_, run_beginRound q3 (by rw [← hrec]), ?_⟩)⟩
    · rw [y, ← hrec]; simp
    generalize hB : A.putObj (D + 1) (.loop { mk .ready none with state := .busy }) = B
    have kB : CellsKept A B := by rw [← hB]; exact CellsKept.put _ q3 rfl
    have bB : Below D A B := by rw [← hB]; exact below_put _ (Below.refl _ _) (by omega) q3
    have lB : B.heap[D + 1]? = some (.loop { mk .ready none with state := .busy }) := by rw [← hB]; exact World.putObj_heap_same lt1
    have dB : B.heap[D]? = some (.deferred (some [])) := by rw [← hB]; exact (World.putObj_heap_other (by omega)).trans q4
    refine wpIn_mono (hbody _ i v B hi (hI _ _ _ q1 kB bB) (hG _ _ _ _ hv kB bB)) ?_
    have last : ∀ (j : Option Code) (C : World), KeepsOthers B C →
        ∃ C', (Instr.endRound (D + 1) j).run P C = .ok (.bool j.isNone) C' ∧ CellsKept C C' ∧ Below D C C' ∧ D ≤ C'.heap.size ∧ C'.heap[D + 1]? = some (.loop (mk (if j.isNone then .ready else .done) j)) ∧ C'.heap[D]? = some (.deferred (some [])) := by
      intro j C hk
      have lC := hk.same _ _ lB rfl
      have dC := hk.same _ _ dB rfl
      refine ⟨_, run_endRound j lC, CellsKept.put _ lC rfl, below_put _ (Below.refl _ _) (by omega) lC, by have := (Array.getElem?_eq_some_iff.1 lC).1; simp; omega, ?_, (World.putObj_heap_other (by omega)).trans dC⟩
      rw [World.putObj_heap_same (Array.getElem?_eq_some_iff.1 lC).1, ← hrec]
    rintro e a3 C hp
    cases e with
    | normal =>
      obtain ⟨hk, hj⟩ := hp
      obtain ⟨C', r, k', b', s', l', d'⟩ := last none C hk
      exact ⟨_, C', r, .inl ⟨rfl, hI _ _ _ hj k' b', s', l', d'⟩⟩
    | ret =>
      obtain ⟨hk, hj⟩ := hp
      obtain ⟨C', r, k', b', s', l', d'⟩ := last (some .ret) C hk
      exact ⟨_, C', r, .inr ⟨rfl, .ret, hIx _ _ _ hj k' b', s', l', d'⟩⟩
    | exit id =>
      obtain ⟨hk, hj⟩ := hp
      obtain ⟨C', r, k', b', s', l', d'⟩ := last (some (.exit id)) C hk
      exact ⟨_, C', r, .inr ⟨rfl, .exit id, hIx _ _ _ hj k' b', s', l', d'⟩⟩
    | goto t =>
      obtain ⟨hk, hj⟩ := hp
      obtain ⟨C', r, k', b', s', l', d'⟩ := last (some (.goto t)) C hk
      exact ⟨_, C', r, .inr ⟨rfl, .goto t, hIx _ _ _ hj k' b', s', l', d'⟩⟩
    | panic ch => exact hp.elim
    | outgrown => exact hp.elim
  · rintro e B ⟨⟨v, rfl⟩, ⟨q1, q2, q3, q4⟩ | ⟨c, q1, q2, q3, q4⟩⟩
    · refine ⟨none, B.putObj (D + 1) (.loop { mk .ready none with state := .exhausted }), ?_, ?_⟩
      · rw [run_endLoop q3 (by rw [← hrec]; simp), ← hrec]
      · exact hdone D _ (Nat.le_refl _) (hI _ _ _ q1 (CellsKept.put _ q3 rfl) (below_put _ (Below.refl _ _) (by omega) q3)) ((World.putObj_heap_other (by omega)).trans q4)
    · refine ⟨some c, B.putObj (D + 1) (.loop { mk .done (some c) with state := .exhausted }), ?_, ?_⟩
      · rw [run_endLoop q3 (by rw [← hrec]; simp), ← hrec]
      · exact hstop D c _ (Nat.le_refl _) (hIx _ _ _ q1 (CellsKept.put _ q3 rfl) (below_put _ (Below.refl _ _) (by omega) q3)) ((World.putObj_heap_other (by omega)).trans q4)
end Go.Proofs.YtpgapjdejelajaaGreatDoor.Ranges

namespace Go.Proofs.YtpgapjdejelajaaGreatDoor.StrB
open Go.RowKit Go.Proofs.YtpgapjdejelajaaGreatDoor.Mem Go.Proofs.YtpgapjdejelajaaGreatDoor.App Go.Proofs.YtpgapjdejelajaaGreatDoor.Blk Go.Proofs.YtpgapjdejelajaaGreatDoor.Pads Go.Proofs.YtpgapjdejelajaaGreatDoor.ShaP Go.Proofs.YtpgapjdejelajaaGreatDoor.Comp Go.Proofs.YtpgapjdejelajaaGreatDoor.MacP Go.Proofs.YtpgapjdejelajaaGreatDoor.MacI Go.Proofs.YtpgapjdejelajaaGreatDoor.KdfP Go.Proofs.YtpgapjdejelajaaGreatDoor.Ranges
attribute [local go_sem] Oper.semAt_some

/-- What the iterator has captured: the key, the head. -/
def caught (q : Nat) : Array Value := #[.pointer (some ⟨q, 0, none⟩), .pointer (some ⟨q + 1, 0, none⟩)]
/-- What the iterator says of the i-th value. -/
def Given (k h : List Int) (i : Nat) (v : Value) (W : World) : Prop := ∃ g c, v = .slice (some ⟨g, 0, none⟩) 32 c ∧ Row W g c (sblk k h i)

/-- What the iterator reads. -/
def Reads (q : Nat) (a0 : Option Addr) (n0 c0 : Nat) (a1 : Option Addr) (n1 c1 : Nat) (k h : List Int) (W : World) : Prop :=
  Tab W ∧ Rd W a0 k ∧ Rd W a1 h ∧ Blk W q 22 [.slice a0 n0 c0] ∧ Blk W (q + 1) 22 [.slice a1 n1 c1]

end Go.Proofs.YtpgapjdejelajaaGreatDoor.StrB
