/-
  What impl's FrameOk and Sealed answer.
  What impl's PutFrame and SizeOf answer.
  Heads, and what a tag is of, as plain functions.
  What impl's Sealed answers.
-/
import Derived.Test.YtpenhliaelhnoaaGreatDoorFrO
import Derived.Test.YtpenhliaelhnoaaGreatDoorGz12
import Derived.Test.YtpenhliaelhnoaaGreatDoorGz7
import Derived.Test.YtpenhliaelhnoaaGreatDoorGz11
set_option linter.unusedVariables false
namespace Go.Proofs.YtpenhliaelhnoaaGreatDoor.FrO2
open Go.RowKit Go.Proofs.YtpenhliaelhnoaaGreatDoor.Mem Go.Proofs.YtpenhliaelhnoaaGreatDoor.Blk Go.Proofs.YtpenhliaelhnoaaGreatDoor.Words Go.Proofs.YtpenhliaelhnoaaGreatDoor.Zone Go.Proofs.YtpenhliaelhnoaaGreatDoor.Res Go.Proofs.YtpenhliaelhnoaaGreatDoor.FrZ Go.Proofs.YtpenhliaelhnoaaGreatDoor.FrP Go.Proofs.YtpenhliaelhnoaaGreatDoor.FrB Go.Proofs.YtpenhliaelhnoaaGreatDoor.FrT Go.Proofs.YtpenhliaelhnoaaGreatDoor.FrW Go.Proofs.YtpenhliaelhnoaaGreatDoor.FrW2 Go.Proofs.YtpenhliaelhnoaaGreatDoor.FrW3 Go.Proofs.YtpenhliaelhnoaaGreatDoor.FrE Go.Proofs.YtpenhliaelhnoaaGreatDoor.FrO

set_option maxRecDepth 100000 in
theorem ok1 (di : Int) (lcn lsn : List Int) (dt : Int) (lco lpr : List Int) (de dq : Int) (lbo lta : List Int) :
    ((isIn di 1 9 && ((lcn.length : Int) == 12)) && sameD ⟨1, di, lcn, [], 0, [], [], 0, 0, [], []⟩ ⟨1, di, lcn, lsn, dt, lco, lpr, de, dq, lbo, lta⟩) = frameOk ⟨1, di, lcn, lsn, dt, lco, lpr, de, dq, lbo, lta⟩ := by
  rw [Bool.eq_iff_iff, ok_iff]
  simp only [sameD, Bool.and_eq_true, beq_iff_eq, decide_eq_true_eq, isIn, nil_iff, true_and]
  constructor <;> intro h <;> omega

set_option maxRecDepth 100000 in
theorem ok2 (di : Int) (lcn lsn : List Int) (dt : Int) (lco lpr : List Int) (de dq : Int) (lbo lta : List Int) :
    ((((lcn.length : Int) == 12) && (((lsn.length : Int) == 12) && (isIn dt 0 1000000 && ((lco.length : Int) == 16)))) && sameD ⟨2, 0, lcn, lsn, dt, lco, [], 0, 0, [], []⟩ ⟨2, di, lcn, lsn, dt, lco, lpr, de, dq, lbo, lta⟩) = frameOk ⟨2, di, lcn, lsn, dt, lco, lpr, de, dq, lbo, lta⟩ := by
  rw [Bool.eq_iff_iff, ok_iff]
  simp only [sameD, Bool.and_eq_true, beq_iff_eq, decide_eq_true_eq, isIn, nil_iff, true_and]
  constructor <;> intro h <;> omega

set_option maxRecDepth 100000 in
theorem ok3 (di : Int) (lcn lsn : List Int) (dt : Int) (lco lpr : List Int) (de dq : Int) (lbo lta : List Int) :
    ((isIn di 1 9 && ((((lcn.length : Int) == 12) && (((lsn.length : Int) == 12) && (isIn dt 0 1000000 && ((lco.length : Int) == 16)))) && ((lpr.length : Int) == 16))) && sameD ⟨3, di, lcn, lsn, dt, lco, lpr, 0, 0, [], []⟩ ⟨3, di, lcn, lsn, dt, lco, lpr, de, dq, lbo, lta⟩) = frameOk ⟨3, di, lcn, lsn, dt, lco, lpr, de, dq, lbo, lta⟩ := by
  rw [Bool.eq_iff_iff, ok_iff]
  simp only [sameD, Bool.and_eq_true, beq_iff_eq, decide_eq_true_eq, isIn, nil_iff, true_and]
  constructor <;> intro h <;> omega

set_option maxRecDepth 100000 in
theorem ok4 (di : Int) (lcn lsn : List Int) (dt : Int) (lco lpr : List Int) (de dq : Int) (lbo lta : List Int) :
    (((((lsn.length : Int) == 12) && (isIn de 0 4294967295 && (isIn dq 0 281474976710655 && ((lta.length : Int) == 16)))) && (decide ((lbo.length : Int) ≤ 40))) && sameD ⟨4, 0, [], lsn, 0, [], [], de, dq, lbo, lta⟩ ⟨4, di, lcn, lsn, dt, lco, lpr, de, dq, lbo, lta⟩) = frameOk ⟨4, di, lcn, lsn, dt, lco, lpr, de, dq, lbo, lta⟩ := by
  rw [Bool.eq_iff_iff, ok_iff]
  have hb : bodyOk 4 (lbo.length : Int) = true ↔ (lbo.length : Int) ≤ 40 := by
      unfold bodyOk; simp; try omega
  simp only [sameD, Bool.and_eq_true, beq_iff_eq, decide_eq_true_eq, isIn, nil_iff, true_and, and_true, hb]
  constructor <;> intro h <;> omega

set_option maxRecDepth 100000 in
theorem ok5 (di : Int) (lcn lsn : List Int) (dt : Int) (lco lpr : List Int) (de dq : Int) (lbo lta : List Int) :
    (((((lsn.length : Int) == 12) && (isIn de 0 4294967295 && (isIn dq 0 281474976710655 && ((lta.length : Int) == 16)))) && ((lbo.length : Int) == 12)) && sameD ⟨5, 0, [], lsn, 0, [], [], de, dq, lbo, lta⟩ ⟨5, di, lcn, lsn, dt, lco, lpr, de, dq, lbo, lta⟩) = frameOk ⟨5, di, lcn, lsn, dt, lco, lpr, de, dq, lbo, lta⟩ := by
  rw [Bool.eq_iff_iff, ok_iff]
  have hb : bodyOk 5 (lbo.length : Int) = true ↔ lbo.length = 12 := by
      unfold bodyOk; simp; try omega
  simp only [sameD, Bool.and_eq_true, beq_iff_eq, decide_eq_true_eq, isIn, nil_iff, true_and, and_true, hb]
  constructor <;> intro h <;> omega

set_option maxRecDepth 100000 in
theorem ok6 (di : Int) (lcn lsn : List Int) (dt : Int) (lco lpr : List Int) (de dq : Int) (lbo lta : List Int) :
    (((((lsn.length : Int) == 12) && (isIn de 0 4294967295 && (isIn dq 0 281474976710655 && ((lta.length : Int) == 16)))) && ((lbo.length : Int) == 12)) && sameD ⟨6, 0, [], lsn, 0, [], [], de, dq, lbo, lta⟩ ⟨6, di, lcn, lsn, dt, lco, lpr, de, dq, lbo, lta⟩) = frameOk ⟨6, di, lcn, lsn, dt, lco, lpr, de, dq, lbo, lta⟩ := by
  rw [Bool.eq_iff_iff, ok_iff]
  have hb : bodyOk 6 (lbo.length : Int) = true ↔ lbo.length = 12 := by
      unfold bodyOk; simp; try omega
  simp only [sameD, Bool.and_eq_true, beq_iff_eq, decide_eq_true_eq, isIn, nil_iff, true_and, and_true, hb]
  constructor <;> intro h <;> omega

set_option maxRecDepth 100000 in
theorem ok7 (di : Int) (lcn lsn : List Int) (dt : Int) (lco lpr : List Int) (de dq : Int) (lbo lta : List Int) :
    (((((lsn.length : Int) == 12) && (isIn de 0 4294967295 && (isIn dq 0 281474976710655 && ((lta.length : Int) == 16)))) && ((lbo.length : Int) == 4)) && sameD ⟨7, 0, [], lsn, 0, [], [], de, dq, lbo, lta⟩ ⟨7, di, lcn, lsn, dt, lco, lpr, de, dq, lbo, lta⟩) = frameOk ⟨7, di, lcn, lsn, dt, lco, lpr, de, dq, lbo, lta⟩ := by
  rw [Bool.eq_iff_iff, ok_iff]
  have hb : bodyOk 7 (lbo.length : Int) = true ↔ lbo.length = 4 := by
      unfold bodyOk; simp; try omega
  simp only [sameD, Bool.and_eq_true, beq_iff_eq, decide_eq_true_eq, isIn, nil_iff, true_and, and_true, hb]
  constructor <;> intro h <;> omega

set_option maxRecDepth 100000 in
theorem ok8 (di : Int) (lcn lsn : List Int) (dt : Int) (lco lpr : List Int) (de dq : Int) (lbo lta : List Int) :
    (((((lsn.length : Int) == 12) && (isIn de 0 4294967295 && (isIn dq 0 281474976710655 && ((lta.length : Int) == 16)))) && ((lbo.length : Int) == 4)) && sameD ⟨8, 0, [], lsn, 0, [], [], de, dq, lbo, lta⟩ ⟨8, di, lcn, lsn, dt, lco, lpr, de, dq, lbo, lta⟩) = frameOk ⟨8, di, lcn, lsn, dt, lco, lpr, de, dq, lbo, lta⟩ := by
  rw [Bool.eq_iff_iff, ok_iff]
  have hb : bodyOk 8 (lbo.length : Int) = true ↔ lbo.length = 4 := by
      unfold bodyOk; simp; try omega
  simp only [sameD, Bool.and_eq_true, beq_iff_eq, decide_eq_true_eq, isIn, nil_iff, true_and, and_true, hb]
  constructor <;> intro h <;> omega

set_option maxRecDepth 100000 in
set_option maxHeartbeats 1600000 in
theorem implOk0 (S : FrS) (dk di dt de dq : Int) (w : World) (h1 : (dk == 1) = false) (h2 : (dk == 2) = false) (h3 : (dk == 3) = false) (h4 : (dk == 4) = false) (h5 : (dk == 5) = false) (h6 : (dk == 6) = false) (h7 : (dk == 7) = false) (h8 : (dk == 8) = false) :
    Calls Tryz.prog 15 #[.agg #[.int .i64 dk, .int .i64 di, .slice S.cn.a S.cn.n S.cn.c, .slice S.sn.a S.sn.n S.sn.c, .int .i64 dt, .slice S.cookie.a S.cookie.n S.cookie.c, .slice S.proof.a S.proof.n S.proof.c, .int .i64 de, .int .i64 dq, .slice S.body.a S.body.n S.body.c, .slice S.tag.a S.tag.n S.tag.c]] w fun e w' => e = .returned (.bool false) ∧ Below w.heap.size w w' := by
  obtain ⟨x0, hx0⟩ : ∃ x0, w.alloc (.cells #[.int .i64 dk, .int .i64 di, .slice S.cn.a S.cn.n S.cn.c, .slice S.sn.a S.sn.n S.sn.c, .int .i64 dt, .slice S.cookie.a S.cookie.n S.cookie.c, .slice S.proof.a S.proof.n S.proof.c, .int .i64 de, .int .i64 dq, .slice S.body.a S.body.n S.body.c, .slice S.tag.a S.tag.n S.tag.c] 25) = x0 := ⟨_, rfl⟩
  have HW0 : Hid (w.alloc (.cells #[.int .i64 dk, .int .i64 di, .slice S.cn.a S.cn.n S.cn.c, .slice S.sn.a S.sn.n S.sn.c, .int .i64 dt, .slice S.cookie.a S.cookie.n S.cookie.c, .slice S.proof.a S.proof.n S.proof.c, .int .i64 de, .int .i64 dq, .slice S.body.a S.body.n S.body.c, .slice S.tag.a S.tag.n S.tag.c] 25) = x0) := hx0
  have B0 : Hid (Below w.heap.size w x0) := by rw [← hx0]; exact (Below.refl _ _).alloc (Nat.le_refl _) _
  clear hx0
  have q0 := ne0
  go_enter Tryz.func15, Tryz.ntmps15
  go_wp2_with fail
  rw [HW0.out]
  refine (wordOf0 dk di S.cn S.sn dt S.cookie S.proof de dq S.body S.tag h1 h2 h3 h4 h5 h6 h7 h8 x0).mono ?_
  rintro e x1 ⟨rfl, b1⟩
  have B1 : Hid (Below w.heap.size w x1) := B0.out.trans (b1.mono B0.out.size)
  clear b1
  go_upto_region 2 with fail
  go_quiet (fail)
  go_wp2
  go_ret
  exact ⟨by simp, below_drewN B1.out _⟩

set_option maxRecDepth 100000 in
theorem implFrameOk (S : FrS) (D : FrD) (w : World) (h : FrRd w S D) :
    Calls Tryz.prog 15 #[frV D S] w fun e w' => e = .returned (.bool (frameOk D)) ∧ Below w.heap.size w w' := by
  obtain ⟨dk, di, lcn, lsn, dt, lco, lpr, de, dq, lbo, lta⟩ := D
  have hcn : S.cn.n = lcn.length := h.cn.len
  have hsn : S.sn.n = lsn.length := h.sn.len
  have hco : S.cookie.n = lco.length := h.cookie.len
  have hpr : S.proof.n = lpr.length := h.proof.len
  have hbo : S.body.n = lbo.length := h.body.len
  have hta : S.tag.n = lta.length := h.tag.len
  show Calls Tryz.prog 15 #[.agg #[.int .i64 dk, .int .i64 di, .slice S.cn.a S.cn.n S.cn.c, .slice S.sn.a S.sn.n S.sn.c, .int .i64 dt, .slice S.cookie.a S.cookie.n S.cookie.c, .slice S.proof.a S.proof.n S.proof.c, .int .i64 de, .int .i64 dq, .slice S.body.a S.body.n S.body.c, .slice S.tag.a S.tag.n S.tag.c]] w _
  by_cases k1 : dk = 1
  · subst k1
    have := implOk1 S di lcn lsn dt lco lpr de dq lbo lta w h
    rw [hcn, ok1] at this
    rw [hcn]
    exact this
  by_cases k2 : dk = 2
  · subst k2
    have := implOk2 S di lcn lsn dt lco lpr de dq lbo lta w h
    rw [hcn, hsn, hco, ok2] at this
    rw [hcn, hsn, hco]
    exact this
  by_cases k3 : dk = 3
  · subst k3
    have := implOk3 S di lcn lsn dt lco lpr de dq lbo lta w h
    rw [hcn, hsn, hco, hpr, ok3] at this
    rw [hcn, hsn, hco, hpr]
    exact this
  by_cases k4 : dk = 4
  · subst k4
    have := implOk4 S di lcn lsn dt lco lpr de dq lbo lta w h
    rw [hsn, hbo, hta, ok4] at this
    rw [hsn, hbo, hta]
    exact this
  by_cases k5 : dk = 5
  · subst k5
    have := implOk5 S di lcn lsn dt lco lpr de dq lbo lta w h
    rw [hsn, hbo, hta, ok5] at this
    rw [hsn, hbo, hta]
    exact this
  by_cases k6 : dk = 6
  · subst k6
    have := implOk6 S di lcn lsn dt lco lpr de dq lbo lta w h
    rw [hsn, hbo, hta, ok6] at this
    rw [hsn, hbo, hta]
    exact this
  by_cases k7 : dk = 7
  · subst k7
    have := implOk7 S di lcn lsn dt lco lpr de dq lbo lta w h
    rw [hsn, hbo, hta, ok7] at this
    rw [hsn, hbo, hta]
    exact this
  by_cases k8 : dk = 8
  · subst k8
    have := implOk8 S di lcn lsn dt lco lpr de dq lbo lta w h
    rw [hsn, hbo, hta, ok8] at this
    rw [hsn, hbo, hta]
    exact this
  have hn : frameOk ⟨dk, di, lcn, lsn, dt, lco, lpr, de, dq, lbo, lta⟩ = false := by
    cases hc : frameOk ⟨dk, di, lcn, lsn, dt, lco, lpr, de, dq, lbo, lta⟩ with
    | false => rfl
    | true => have := ok_kind _ hc; simp only at this; omega
  rw [hn]
  exact implOk0 S dk di dt de dq w (by simpa using k1) (by simpa using k2) (by simpa using k3) (by simpa using k4) (by simpa using k5) (by simpa using k6) (by simpa using k7) (by simpa using k8)

end Go.Proofs.YtpenhliaelhnoaaGreatDoor.FrO2

namespace Go.Proofs.YtpenhliaelhnoaaGreatDoor.FrQ3
open Go.RowKit Go.Proofs.YtpenhliaelhnoaaGreatDoor.Mem Go.Proofs.YtpenhliaelhnoaaGreatDoor.App Go.Proofs.YtpenhliaelhnoaaGreatDoor.Blk Go.Proofs.YtpenhliaelhnoaaGreatDoor.Words Go.Proofs.YtpenhliaelhnoaaGreatDoor.Zone Go.Proofs.YtpenhliaelhnoaaGreatDoor.Res Go.Proofs.YtpenhliaelhnoaaGreatDoor.FrZ Go.Proofs.YtpenhliaelhnoaaGreatDoor.FrP Go.Proofs.YtpenhliaelhnoaaGreatDoor.FrB Go.Proofs.YtpenhliaelhnoaaGreatDoor.FrT Go.Proofs.YtpenhliaelhnoaaGreatDoor.FrW Go.Proofs.YtpenhliaelhnoaaGreatDoor.FrW2 Go.Proofs.YtpenhliaelhnoaaGreatDoor.FrW3 Go.Proofs.YtpenhliaelhnoaaGreatDoor.FrQ Go.Proofs.YtpenhliaelhnoaaGreatDoor.FrQ2 Go.Proofs.YtpenhliaelhnoaaGreatDoor.FrO2

set_option maxRecDepth 100000 in
theorem putN_one (x : Int) (h0 : 0 ≤ x) (h1 : x ≤ 255) : putN x 1 = [x] := by
  show num x 1 = [x]
  show [x / 2 ^ (8 * 0) % 256] = [x]
  congr 1
  simp
  omega
set_option maxRecDepth 100000 in
theorem short_ok (D : FrD) (h : frameOk D = true) : FrShort D 100 := by
  obtain ⟨h1, h2, h3, h4, h5, h6⟩ := ok_lens D h
  exact ⟨by omega, by omega, by omega, by omega, by omega, by omega⟩

set_option maxRecDepth 100000 in
theorem lay1 (D : FrD) (h : frameOk D = true) (k : D.kind = 1) : [] ++ putN 1 1 ++ putN D.id 1 ++ D.cn ++ List.replicate 20 0 = putF D := by
  rw [putF_1 D h (by rw [k]; rfl), k, putN_one 1 (by omega) (by omega), putN_one D.id (by have := ok_id1 D h (by rw [k]; rfl); omega) (by have := ok_id1 D h (by rw [k]; rfl); omega)]; rfl
set_option maxRecDepth 100000 in
theorem lay2 (D : FrD) (h : frameOk D = true) (k : D.kind = 2) : [] ++ putN 2 1 ++ D.cn ++ D.sn ++ putN D.tick 4 ++ D.cookie = putF D := by
  rw [putF_2 D h (by rw [k]; rfl) (by rw [k]; rfl), k]; rfl
set_option maxRecDepth 100000 in
theorem lay3 (D : FrD) (h : frameOk D = true) (k : D.kind = 3) : [] ++ putN 3 1 ++ putN D.id 1 ++ D.cn ++ D.sn ++ putN D.tick 4 ++ D.cookie ++ D.proof = putF D := by
  rw [putF_3 D h (by rw [k]; rfl) (by rw [k]; rfl) (by rw [k]; rfl), k, putN_one D.id (by have := ok_id3 D h (by rw [k]; rfl); omega) (by have := ok_id3 D h (by rw [k]; rfl); omega)]; rfl
set_option maxRecDepth 100000 in
theorem lay4 (D : FrD) (h : frameOk D = true) (k : D.kind = 4) : [] ++ putN 4 1 ++ D.sn ++ putN D.epoch 4 ++ putN D.seq 6 ++ D.tag ++ D.body = putF D := by
  rw [putF_s D h (by rw [k]; rfl) (by rw [k]; rfl) (by rw [k]; rfl), k]; rfl
set_option maxRecDepth 100000 in
theorem lay5 (D : FrD) (h : frameOk D = true) (k : D.kind = 5) : [] ++ putN 5 1 ++ D.sn ++ putN D.epoch 4 ++ putN D.seq 6 ++ D.tag ++ D.body = putF D := by
  rw [putF_s D h (by rw [k]; rfl) (by rw [k]; rfl) (by rw [k]; rfl), k]; rfl
set_option maxRecDepth 100000 in
theorem lay6 (D : FrD) (h : frameOk D = true) (k : D.kind = 6) : [] ++ putN 6 1 ++ D.sn ++ putN D.epoch 4 ++ putN D.seq 6 ++ D.tag ++ D.body = putF D := by
  rw [putF_s D h (by rw [k]; rfl) (by rw [k]; rfl) (by rw [k]; rfl), k]; rfl
set_option maxRecDepth 100000 in
theorem lay7 (D : FrD) (h : frameOk D = true) (k : D.kind = 7) : [] ++ putN 7 1 ++ D.sn ++ putN D.epoch 4 ++ putN D.seq 6 ++ D.tag ++ D.body = putF D := by
  rw [putF_s D h (by rw [k]; rfl) (by rw [k]; rfl) (by rw [k]; rfl), k]; rfl
set_option maxRecDepth 100000 in
theorem lay8 (D : FrD) (h : frameOk D = true) (k : D.kind = 8) : [] ++ putN 8 1 ++ D.sn ++ putN D.epoch 4 ++ putN D.seq 6 ++ D.tag ++ D.body = putF D := by
  rw [putF_s D h (by rw [k]; rfl) (by rw [k]; rfl) (by rw [k]; rfl), k]; rfl

end Go.Proofs.YtpenhliaelhnoaaGreatDoor.FrQ3

namespace Go.Proofs.YtpenhliaelhnoaaGreatDoor.SlP
open Go.RowKit Go.Proofs.YtpenhliaelhnoaaGreatDoor.Mem Go.Proofs.YtpenhliaelhnoaaGreatDoor.App Go.Proofs.YtpenhliaelhnoaaGreatDoor.Words Go.Proofs.YtpenhliaelhnoaaGreatDoor.FrZ Go.Proofs.YtpenhliaelhnoaaGreatDoor.FrP Go.Proofs.YtpenhliaelhnoaaGreatDoor.FrG Go.Proofs.YtpenhliaelhnoaaGreatDoor.Get

/-- Whether there is a head of these. -/
def headOk (role : Int) (n : Int) (epoch seq : Int) : Bool := isIn role 0 1 && ((n == 12) && (isIn epoch 0 4294967295 && isIn seq 0 281474976710655))
set_option maxRecDepth 100000 in
theorem headOk_iff (role n epoch seq : Int) : headOk role n epoch seq = true ↔ (0 ≤ role ∧ role ≤ 1) ∧ n = 12 ∧ (0 ≤ epoch ∧ epoch ≤ 4294967295) ∧ (0 ≤ seq ∧ seq ≤ 281474976710655) := by
  unfold headOk isIn; simp [and_assoc]
/-- The head. -/
def headL (role : Int) (sn : List Int) (epoch seq : Int) : List Int := if headOk role sn.length epoch seq = true then [role] ++ sn ++ num epoch 4 ++ num seq 6 else []
set_option maxRecDepth 100000 in
theorem headL_no (role : Int) (sn : List Int) (epoch seq : Int) (h : headOk role sn.length epoch seq = false) : headL role sn epoch seq = [] := by unfold headL; rw [if_neg (by rw [h]; simp)]
set_option maxRecDepth 100000 in
theorem headL_yes (role : Int) (sn : List Int) (epoch seq : Int) (h : headOk role sn.length epoch seq = true) : headL role sn epoch seq = [role] ++ sn ++ num epoch 4 ++ num seq 6 := by unfold headL; rw [if_pos h]
set_option maxRecDepth 100000 in
theorem headL_len (role : Int) (sn : List Int) (epoch seq : Int) (h : headOk role sn.length epoch seq = true) : (headL role sn epoch seq).length = 23 := by
  rw [headL_yes role sn epoch seq h]
  have := ((headOk_iff _ _ _ _).1 h).2.1
  simp [num_length]; omega
set_option maxRecDepth 100000 in
theorem headL_le (role : Int) (sn : List Int) (epoch seq : Int) : (headL role sn epoch seq).length ≤ 23 := by
  by_cases h : headOk role sn.length epoch seq = true
  · rw [headL_len role sn epoch seq h]; exact Nat.le_refl _
  · rw [headL_no role sn epoch seq (by simpa using h)]; simp
set_option maxRecDepth 100000 in
theorem bytes_app {a b : List Int} (ha : Bytes a) (hb : Bytes b) : Bytes (a ++ b) := fun z hz => by
  rcases List.mem_append.1 hz with h | h
  · exact ha z h
  · exact hb z h
set_option maxRecDepth 100000 in
theorem bytes_one {z : Int} (h0 : 0 ≤ z) (h1 : z ≤ 255) : Bytes [z] := fun y hy => by simp at hy; omega
set_option maxRecDepth 100000 in
theorem headL_bytes (role : Int) (sn : List Int) (epoch seq : Int) (hb : Bytes sn) : Bytes (headL role sn epoch seq) := by
  by_cases h : headOk role sn.length epoch seq = true
  · rw [headL_yes role sn epoch seq h]
    have h1 := ((headOk_iff _ _ _ _).1 h).1
    exact bytes_app (bytes_app (bytes_app (bytes_one h1.1 (by omega)) hb) (num_bytes _ _)) (num_bytes _ _)
  · rw [headL_no role sn epoch seq (by simpa using h)]; exact fun z hz => by cases hz
set_option maxRecDepth 100000 in
theorem headL_nil (role : Int) (sn : List Int) (epoch seq : Int) : ((headL role sn epoch seq).length = 0) ↔ headOk role sn.length epoch seq = false := by
  constructor
  · intro h
    by_cases k : headOk role sn.length epoch seq = true
    · rw [headL_len _ _ _ _ k] at h; cases h
    · simpa using k
  · intro h; rw [headL_no _ _ _ _ h]; rfl

/-- Whether a frame's tag can be made. -/
def canTag (role : Int) (D : FrD) : Bool := isIn role 0 1 && (isIn D.kind 4 8 && frameOk D)
/-- What the tag is of. -/
def tagIn (role : Int) (D : FrD) : List Int := if canTag role D = true then [116] ++ headL role D.sn D.epoch D.seq ++ [D.kind] ++ D.body else []
set_option maxRecDepth 100000 in
theorem tagIn_no (role : Int) (D : FrD) (h : canTag role D = false) : tagIn role D = [] := by unfold tagIn; rw [if_neg (by rw [h]; simp)]
set_option maxRecDepth 100000 in
theorem tagIn_yes (role : Int) (D : FrD) (h : canTag role D = true) : tagIn role D = [116] ++ headL role D.sn D.epoch D.seq ++ [D.kind] ++ D.body := by unfold tagIn; rw [if_pos h]
set_option maxRecDepth 100000 in
theorem canTag_parts {role : Int} {D : FrD} (h : canTag role D = true) : (0 ≤ role ∧ role ≤ 1) ∧ (4 ≤ D.kind ∧ D.kind ≤ 8) ∧ frameOk D = true := by
  unfold canTag isIn at h; simp at h; exact ⟨h.1, h.2.1, h.2.2⟩
set_option maxRecDepth 100000 in
theorem canTag_of {role : Int} {D : FrD} (h1 : 0 ≤ role ∧ role ≤ 1) (h2 : 4 ≤ D.kind ∧ D.kind ≤ 8) (h3 : frameOk D = true) : canTag role D = true := by
  unfold canTag isIn; simp [h1, h2, h3]
set_option maxRecDepth 100000 in
theorem canTag_eq (role : Int) (D : FrD) : (isIn role 0 1 && (frameOk D && isIn D.kind 4 8)) = canTag role D := by
  unfold canTag; cases isIn role 0 1 <;> cases frameOk D <;> cases isIn D.kind 4 8 <;> rfl
set_option maxRecDepth 100000 in
/-- A right sealed frame's parts. -/
theorem sealed_parts {D : FrD} (hk : 4 ≤ D.kind ∧ D.kind ≤ 8) : frameOk D = true ↔ D.id = 0 ∧ D.cn = [] ∧ D.sn.length = 12 ∧ D.tick = 0 ∧ D.cookie = [] ∧ D.proof = [] ∧ (0 ≤ D.epoch ∧ D.epoch ≤ 4294967295) ∧ (0 ≤ D.seq ∧ D.seq ≤ 281474976710655) ∧ bodyOk D.kind D.body.length = true ∧ D.tag.length = 16 := by
  unfold frameOk okS
  rw [if_pos (isIn_yes hk)]
  unfold isIn
  simp only [Bool.and_eq_true, beq_iff_eq, decide_eq_true_eq]
  constructor
  · rintro ⟨h1, h2, h3, h4, h5, h6, h7, h8, h9, h10⟩
    exact ⟨h1, List.length_eq_zero_iff.1 (by omega), by omega, h4, List.length_eq_zero_iff.1 (by omega), List.length_eq_zero_iff.1 (by omega), h7, h8, h9, by omega⟩
  · rintro ⟨h1, h2, h3, h4, h5, h6, h7, h8, h9, h10⟩
    exact ⟨h1, by rw [h2]; rfl, by omega, h4, by rw [h5]; rfl, by rw [h6]; rfl, h7, h8, h9, by omega⟩
set_option maxRecDepth 100000 in
theorem canTag_head {role : Int} {D : FrD} (h : canTag role D = true) : headOk role D.sn.length D.epoch D.seq = true := by
  obtain ⟨h1, h2, h3⟩ := canTag_parts h
  obtain ⟨_, _, h6, _, _, _, h7, h8, _, _⟩ := (sealed_parts h2).1 h3
  exact (headOk_iff _ _ _ _).2 ⟨h1, by omega, h7, h8⟩
set_option maxRecDepth 100000 in
theorem bodyOk_le {k n : Int} (h : bodyOk k n = true) : n ≤ 40 := by
  unfold bodyOk at h
  split at h
  · simpa using h
  · split at h <;> simp at h <;> omega
set_option maxRecDepth 100000 in
theorem canTag_body {role : Int} {D : FrD} (h : canTag role D = true) : D.body.length ≤ 40 := by
  obtain ⟨h1, h2, h3⟩ := canTag_parts h
  obtain ⟨_, _, h6, _, _, _, h7, h8, h9, _⟩ := (sealed_parts h2).1 h3
  have := bodyOk_le h9; omega
set_option maxRecDepth 100000 in
theorem tagIn_len {role : Int} {D : FrD} (h : canTag role D = true) : (tagIn role D).length = 25 + D.body.length := by
  rw [tagIn_yes role D h]
  have := headL_len _ _ _ _ (canTag_head h)
  simp [this]; omega
set_option maxRecDepth 100000 in
theorem tagIn_le (role : Int) (D : FrD) : (tagIn role D).length ≤ 65 := by
  by_cases h : canTag role D = true
  · rw [tagIn_len h]; have := canTag_body h; omega
  · rw [tagIn_no role D (by simpa using h)]; simp
set_option maxRecDepth 100000 in
theorem tagIn_bytes (role : Int) (D : FrD) (h1 : Bytes D.sn) (h2 : Bytes D.body) : Bytes (tagIn role D) := by
  by_cases h : canTag role D = true
  · rw [tagIn_yes role D h]
    have hk := (canTag_parts h).2.1
    exact bytes_app (bytes_app (bytes_app (bytes_one (by omega) (by omega)) (headL_bytes _ _ _ _ h1)) (bytes_one (by omega) (by omega))) h2
  · rw [tagIn_no role D (by simpa using h)]; exact fun z hz => by cases hz
set_option maxRecDepth 100000 in
theorem tagIn_nil (role : Int) (D : FrD) : ((tagIn role D).length = 0) ↔ canTag role D = false := by
  constructor
  · intro h
    by_cases k : canTag role D = true
    · rw [tagIn_len k] at h; omega
    · simpa using k
  · intro h; rw [tagIn_no _ _ h]; rfl
set_option maxRecDepth 100000 in
/-- Heads of unlike parts are unlike. -/
theorem headL_inj {r r' : Int} {sn sn' : List Int} {e e' s s' : Int} (h : headOk r sn.length e s = true) (h' : headOk r' sn'.length e' s' = true) (he : headL r sn e s = headL r' sn' e' s') : r = r' ∧ sn = sn' ∧ e = e' ∧ s = s' := by
  rw [headL_yes _ _ _ _ h, headL_yes _ _ _ _ h'] at he
  obtain ⟨_, a1, a2, a3⟩ := (headOk_iff _ _ _ _).1 h
  obtain ⟨_, b1, b2, b3⟩ := (headOk_iff _ _ _ _).1 h'
  have l1 : sn.length = sn'.length := by omega
  rw [List.append_assoc, List.append_assoc, List.append_assoc, List.append_assoc] at he
  obtain ⟨h0, hA⟩ := List.append_inj he rfl
  obtain ⟨h1, hB⟩ := List.append_inj hA l1
  obtain ⟨he1, he2⟩ := List.append_inj hB (by rw [num_length, num_length])
  have h2 : r = r' := by simpa using h0
  exact ⟨h2, h1, num_inj e e' 4 a2.1 (by omega) b2.1 (by omega) he1, num_inj s s' 6 a3.1 (by omega) b3.1 (by omega) he2⟩
end Go.Proofs.YtpenhliaelhnoaaGreatDoor.SlP

namespace Go.Proofs.YtpenhliaelhnoaaGreatDoor.FrSe
open Go.RowKit Go.Proofs.YtpenhliaelhnoaaGreatDoor.Mem Go.Proofs.YtpenhliaelhnoaaGreatDoor.Words Go.Proofs.YtpenhliaelhnoaaGreatDoor.Zone Go.Proofs.YtpenhliaelhnoaaGreatDoor.FrT Go.Proofs.YtpenhliaelhnoaaGreatDoor.FrW3

end Go.Proofs.YtpenhliaelhnoaaGreatDoor.FrSe
