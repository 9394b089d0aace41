/-
  What impl's FrameOk and Sealed answer.
  What impl's PutFrame and SizeOf answer.
  Heads, and what a tag is of, as plain functions.
  What impl's Sealed answers.
-/
import Derived.Test.YtpenhliaelhnoaaGreatDoorVaFrO
import Derived.Test.YtpenhliaelhnoaaGreatDoorVaGz12
import Derived.Test.YtpenhliaelhnoaaGreatDoorVaGz7
import Derived.Test.YtpenhliaelhnoaaGreatDoorVaGz11
set_option linter.unusedVariables false
set_option maxRecDepth 100000
namespace Go.Proofs.YtpenhliaelhnoaaGreatDoor.FrO2
open Go.RowKit Mem Blk Words Zone Res FrZ FrP FrB FrT FrW FrW2 FrW3 FrE FrO

theorem ok1 (di : Int) (lcn lsn : List Int) (dt : Int) (lco lpr : List Int) (de dq : Int) (lbo lta : List Int) :
  ((isIn di 1 9 && ((lcn.length : Int) == 12)) && sameD ⟨1, di, lcn, [], 0, [], [], 0, 0, [], []⟩ ⟨1, di, lcn, lsn, dt, lco, lpr, de, dq, lbo, lta⟩) = frameOk ⟨1, di, lcn, lsn, dt, lco, lpr, de, dq, lbo, lta⟩ := by
 rw [Bool.eq_iff_iff, ok_iff]
 simp only [sameD, Bool.and_eq_true, beq_iff_eq, decide_eq_true_eq, isIn, nil_iff, true_and]
 constructor <;> intro h <;> omega

theorem ok2 (di : Int) (lcn lsn : List Int) (dt : Int) (lco lpr : List Int) (de dq : Int) (lbo lta : List Int) :
  ((((lcn.length : Int) == 12) && (((lsn.length : Int) == 12) && (isIn dt 0 1000000 && ((lco.length : Int) == 16)))) && sameD ⟨2, 0, lcn, lsn, dt, lco, [], 0, 0, [], []⟩ ⟨2, di, lcn, lsn, dt, lco, lpr, de, dq, lbo, lta⟩) = frameOk ⟨2, di, lcn, lsn, dt, lco, lpr, de, dq, lbo, lta⟩ := by
 rw [Bool.eq_iff_iff, ok_iff]
 simp only [sameD, Bool.and_eq_true, beq_iff_eq, decide_eq_true_eq, isIn, nil_iff, true_and]
 constructor <;> intro h <;> omega

theorem ok3 (di : Int) (lcn lsn : List Int) (dt : Int) (lco lpr : List Int) (de dq : Int) (lbo lta : List Int) :
  ((isIn di 1 9 && ((((lcn.length : Int) == 12) && (((lsn.length : Int) == 12) && (isIn dt 0 1000000 && ((lco.length : Int) == 16)))) && ((lpr.length : Int) == 16))) && sameD ⟨3, di, lcn, lsn, dt, lco, lpr, 0, 0, [], []⟩ ⟨3, di, lcn, lsn, dt, lco, lpr, de, dq, lbo, lta⟩) = frameOk ⟨3, di, lcn, lsn, dt, lco, lpr, de, dq, lbo, lta⟩ := by
 rw [Bool.eq_iff_iff, ok_iff]
 simp only [sameD, Bool.and_eq_true, beq_iff_eq, decide_eq_true_eq, isIn, nil_iff, true_and]
 constructor <;> intro h <;> omega

theorem ok4 (di : Int) (lcn lsn : List Int) (dt : Int) (lco lpr : List Int) (de dq : Int) (lbo lta : List Int) :
  (((((lsn.length : Int) == 12) && (isIn de 0 4294967295 && (isIn dq 0 281474976710655 && ((lta.length : Int) == 16)))) && (decide ((lbo.length : Int) ≤ 40))) && sameD ⟨4, 0, [], lsn, 0, [], [], de, dq, lbo, lta⟩ ⟨4, di, lcn, lsn, dt, lco, lpr, de, dq, lbo, lta⟩) = frameOk ⟨4, di, lcn, lsn, dt, lco, lpr, de, dq, lbo, lta⟩ := by
 rw [Bool.eq_iff_iff, ok_iff]
 have hb : bodyOk 4 (lbo.length : Int) = true ↔ (lbo.length : Int) ≤ 40 := by
   unfold bodyOk; simp; try omega
 simp only [sameD, Bool.and_eq_true, beq_iff_eq, decide_eq_true_eq, isIn, nil_iff, true_and, and_true, hb]
 constructor <;> intro h <;> omega

theorem ok5 (di : Int) (lcn lsn : List Int) (dt : Int) (lco lpr : List Int) (de dq : Int) (lbo lta : List Int) :
  (((((lsn.length : Int) == 12) && (isIn de 0 4294967295 && (isIn dq 0 281474976710655 && ((lta.length : Int) == 16)))) && ((lbo.length : Int) == 12)) && sameD ⟨5, 0, [], lsn, 0, [], [], de, dq, lbo, lta⟩ ⟨5, di, lcn, lsn, dt, lco, lpr, de, dq, lbo, lta⟩) = frameOk ⟨5, di, lcn, lsn, dt, lco, lpr, de, dq, lbo, lta⟩ := by
 rw [Bool.eq_iff_iff, ok_iff]
 have hb : bodyOk 5 (lbo.length : Int) = true ↔ lbo.length = 12 := by
   unfold bodyOk; simp; try omega
 simp only [sameD, Bool.and_eq_true, beq_iff_eq, decide_eq_true_eq, isIn, nil_iff, true_and, and_true, hb]
 constructor <;> intro h <;> omega

theorem ok6 (di : Int) (lcn lsn : List Int) (dt : Int) (lco lpr : List Int) (de dq : Int) (lbo lta : List Int) :
  (((((lsn.length : Int) == 12) && (isIn de 0 4294967295 && (isIn dq 0 281474976710655 && ((lta.length : Int) == 16)))) && ((lbo.length : Int) == 12)) && sameD ⟨6, 0, [], lsn, 0, [], [], de, dq, lbo, lta⟩ ⟨6, di, lcn, lsn, dt, lco, lpr, de, dq, lbo, lta⟩) = frameOk ⟨6, di, lcn, lsn, dt, lco, lpr, de, dq, lbo, lta⟩ := by
 rw [Bool.eq_iff_iff, ok_iff]
 have hb : bodyOk 6 (lbo.length : Int) = true ↔ lbo.length = 12 := by
   unfold bodyOk; simp; try omega
 simp only [sameD, Bool.and_eq_true, beq_iff_eq, decide_eq_true_eq, isIn, nil_iff, true_and, and_true, hb]
 constructor <;> intro h <;> omega

theorem ok7 (di : Int) (lcn lsn : List Int) (dt : Int) (lco lpr : List Int) (de dq : Int) (lbo lta : List Int) :
  (((((lsn.length : Int) == 12) && (isIn de 0 4294967295 && (isIn dq 0 281474976710655 && ((lta.length : Int) == 16)))) && ((lbo.length : Int) == 4)) && sameD ⟨7, 0, [], lsn, 0, [], [], de, dq, lbo, lta⟩ ⟨7, di, lcn, lsn, dt, lco, lpr, de, dq, lbo, lta⟩) = frameOk ⟨7, di, lcn, lsn, dt, lco, lpr, de, dq, lbo, lta⟩ := by
 rw [Bool.eq_iff_iff, ok_iff]
 have hb : bodyOk 7 (lbo.length : Int) = true ↔ lbo.length = 4 := by
   unfold bodyOk; simp; try omega
 simp only [sameD, Bool.and_eq_true, beq_iff_eq, decide_eq_true_eq, isIn, nil_iff, true_and, and_true, hb]
 constructor <;> intro h <;> omega

theorem ok8 (di : Int) (lcn lsn : List Int) (dt : Int) (lco lpr : List Int) (de dq : Int) (lbo lta : List Int) :
  (((((lsn.length : Int) == 12) && (isIn de 0 4294967295 && (isIn dq 0 281474976710655 && ((lta.length : Int) == 16)))) && ((lbo.length : Int) == 4)) && sameD ⟨8, 0, [], lsn, 0, [], [], de, dq, lbo, lta⟩ ⟨8, di, lcn, lsn, dt, lco, lpr, de, dq, lbo, lta⟩) = frameOk ⟨8, di, lcn, lsn, dt, lco, lpr, de, dq, lbo, lta⟩ := by
 rw [Bool.eq_iff_iff, ok_iff]
 have hb : bodyOk 8 (lbo.length : Int) = true ↔ lbo.length = 4 := by
   unfold bodyOk; simp; try omega
 simp only [sameD, Bool.and_eq_true, beq_iff_eq, decide_eq_true_eq, isIn, nil_iff, true_and, and_true, hb]
 constructor <;> intro h <;> omega

set_option maxHeartbeats 1600000 in
theorem implOk0 (S : FrS) (dk di dt de dq : Int) (w : World) (h1 : (dk == 1) = false) (h2 : (dk == 2) = false) (h3 : (dk == 3) = false) (h4 : (dk == 4) = false) (h5 : (dk == 5) = false) (h6 : (dk == 6) = false) (h7 : (dk == 7) = false) (h8 : (dk == 8) = false) :
  Calls Tryz.prog 15 #[.agg #[.int .i64 dk, .int .i64 di, .slice S.cn.a S.cn.n S.cn.c, .slice S.sn.a S.sn.n S.sn.c, .int .i64 dt, .slice S.cookie.a S.cookie.n S.cookie.c, .slice S.proof.a S.proof.n S.proof.c, .int .i64 de, .int .i64 dq, .slice S.body.a S.body.n S.body.c, .slice S.tag.a S.tag.n S.tag.c]] w fun e w' => e = .returned (.bool false) ∧ Below w.heap.size w w' := by
 obtain ⟨x0, hx0⟩ : ∃ x0, w.alloc (.cells #[.int .i64 dk, .int .i64 di, .slice S.cn.a S.cn.n S.cn.c, .slice S.sn.a S.sn.n S.sn.c, .int .i64 dt, .slice S.cookie.a S.cookie.n S.cookie.c, .slice S.proof.a S.proof.n S.proof.c, .int .i64 de, .int .i64 dq, .slice S.body.a S.body.n S.body.c, .slice S.tag.a S.tag.n S.tag.c] 25) = x0 := ⟨_, rfl⟩
 have HW0 := hid (hx0)
 have B0 : Hid (Below w.heap.size w x0) := by rw [← hx0]; exact (Below.refl _ _).alloc (Nat.le_refl _) _
 clear hx0
 have q0 := ne0
 go_enter Tryz.func15, Tryz.ntmps15
 go_wp2_with fail
 rw [HW0.out]
 refine (wordOf0 dk di S.cn S.sn dt S.cookie S.proof de dq S.body S.tag h1 h2 h3 h4 h5 h6 h7 h8 x0).mono ?_
 rintro e x1 ⟨rfl, b1⟩
 have B1 := hid (B0.out.trans (b1.mono B0.out.size))
 clear b1
 go_upto_region 2 with fail
 go_quiet (fail)
 go_wp2
 go_ret
 exact ⟨by simp, below_drewN B1.out _⟩

theorem implFrameOk (S : FrS) (D : FrD) (w : World) (h : FrRd w S D) :
  Calls Tryz.prog 15 #[frV D S] w fun e w' => e = .returned (.bool (frameOk D)) ∧ Below w.heap.size w w' := by
 obtain ⟨dk, di, lcn, lsn, dt, lco, lpr, de, dq, lbo, lta⟩ := D
 have hcn : S.cn.n = lcn.length := h.cn.len
 have hsn : S.sn.n = lsn.length := h.sn.len
 have hco : S.cookie.n = lco.length := h.cookie.len
 have hpr : S.proof.n = lpr.length := h.proof.len
 have hbo : S.body.n = lbo.length := h.body.len
 have hta : S.tag.n = lta.length := h.tag.len
 show Calls Tryz.prog 15 #[.agg #[.int .i64 dk, .int .i64 di, .slice S.cn.a S.cn.n S.cn.c, .slice S.sn.a S.sn.n S.sn.c, .int .i64 dt, .slice S.cookie.a S.cookie.n S.cookie.c, .slice S.proof.a S.proof.n S.proof.c, .int .i64 de, .int .i64 dq, .slice S.body.a S.body.n S.body.c, .slice S.tag.a S.tag.n S.tag.c]] w _
 by_cases k1 : dk = 1
 ·
  subst k1
  have := implOk1 S di lcn lsn dt lco lpr de dq lbo lta w h
  rw [hcn, ok1] at this
  rw [hcn]
  exact this
 by_cases k2 : dk = 2
 ·
  subst k2
  have := implOk2 S di lcn lsn dt lco lpr de dq lbo lta w h
  rw [hcn, hsn, hco, ok2] at this
  rw [hcn, hsn, hco]
  exact this
 by_cases k3 : dk = 3
 ·
  subst k3
  have := implOk3 S di lcn lsn dt lco lpr de dq lbo lta w h
  rw [hcn, hsn, hco, hpr, ok3] at this
  rw [hcn, hsn, hco, hpr]
  exact this
 by_cases k4 : dk = 4
 ·
  subst k4
  have := implOk4 S di lcn lsn dt lco lpr de dq lbo lta w h
  rw [hsn, hbo, hta, ok4] at this
  rw [hsn, hbo, hta]
  exact this
 by_cases k5 : dk = 5
 ·
  subst k5
  have := implOk5 S di lcn lsn dt lco lpr de dq lbo lta w h
  rw [hsn, hbo, hta, ok5] at this
  rw [hsn, hbo, hta]
  exact this
 by_cases k6 : dk = 6
 ·
  subst k6
  have := implOk6 S di lcn lsn dt lco lpr de dq lbo lta w h
  rw [hsn, hbo, hta, ok6] at this
  rw [hsn, hbo, hta]
  exact this
 by_cases k7 : dk = 7
 ·
  subst k7
  have := implOk7 S di lcn lsn dt lco lpr de dq lbo lta w h
  rw [hsn, hbo, hta, ok7] at this
  rw [hsn, hbo, hta]
  exact this
 by_cases k8 : dk = 8
 ·
  subst k8
  have := implOk8 S di lcn lsn dt lco lpr de dq lbo lta w h
  rw [hsn, hbo, hta, ok8] at this
  rw [hsn, hbo, hta]
  exact this
 have hn : frameOk ⟨dk, di, lcn, lsn, dt, lco, lpr, de, dq, lbo, lta⟩ = false := by
  cases hc : frameOk ⟨dk, di, lcn, lsn, dt, lco, lpr, de, dq, lbo, lta⟩ with
  | false => rfl
  | true => have := ok_kind _ hc; simp only at this; omega
 rw [hn]
 exact implOk0 S dk di dt de dq w (by simpa using k1) (by simpa using k2) (by simpa using k3) (by simpa using k4) (by simpa using k5) (by simpa using k6) (by simpa using k7) (by simpa using k8)

end Go.Proofs.YtpenhliaelhnoaaGreatDoor.FrO2

