/-
  What impl's FrameOk and Sealed answer.
  What impl's PutFrame and SizeOf answer.
  Heads, and what a tag is of, as plain functions.
  What spec lays as a head, and as what a tag is of.
  What impl's and spec's Cut answer at every slice of at most 4,194,304 bytes that is not nil and every two ints: the same bytes, in new memory, and the same word on whether they were there.
  What impl's wordsOf answers at every slice of ints of at most 4,194,304: whether they are eight words, and then those.
  What impl's and spec's Schedule answer at every slice of bytes of at most 4,194,304: the same words, in new memory.
  What spec's Schedule answers at every slice of bytes of at most 4,194,304: the words of impl's, in new memory.
  What impl's compress does to eight words behind a pointer, for every block of 64 bytes, where the table of round words holds what the program's text lays into it.
-/
import Derived.Test.YtmcflfpckpjphaaFrO
import Derived.Test.YtmcflfpckpjphaaFrQ2
import Derived.Test.YtmcflfpckpjphaaHs3
import Derived.Test.YtmcflfpckpjphaaHs4
import Derived.ChangeKeysEq
import Derived.Deep.RegionLaw
set_option linter.unusedVariables false
namespace Go.Proofs.Ytmcflfpckpjphaa.FrO2
open Go.RowKit Go.Proofs.Ytmcflfpckpjphaa.Mem Go.Proofs.Ytmcflfpckpjphaa.Blk Go.Proofs.Ytmcflfpckpjphaa.Words Go.Proofs.Ytmcflfpckpjphaa.Zone Go.Proofs.Ytmcflfpckpjphaa.Res Go.Proofs.Ytmcflfpckpjphaa.FrZ Go.Proofs.Ytmcflfpckpjphaa.FrP Go.Proofs.Ytmcflfpckpjphaa.FrB Go.Proofs.Ytmcflfpckpjphaa.FrT Go.Proofs.Ytmcflfpckpjphaa.FrW Go.Proofs.Ytmcflfpckpjphaa.FrW2 Go.Proofs.Ytmcflfpckpjphaa.FrW3 Go.Proofs.Ytmcflfpckpjphaa.FrE Go.Proofs.Ytmcflfpckpjphaa.FrO

set_option maxRecDepth 100000 in
theorem ok1 (di : Int) (lcn lsn : List Int) (dt : Int) (lco lpr : List Int) (de dq : Int) (lbo lta : List Int) :
    ((isIn di 1 9 && ((lcn.length : Int) == 12)) && sameD ⟨1, di, lcn, [], 0, [], [], 0, 0, [], []⟩ ⟨1, di, lcn, lsn, dt, lco, lpr, de, dq, lbo, lta⟩) = frameOk ⟨1, di, lcn, lsn, dt, lco, lpr, de, dq, lbo, lta⟩ := by
  rw [Bool.eq_iff_iff, ok_iff]
  simp only [sameD, Bool.and_eq_true, beq_iff_eq, decide_eq_true_eq, isIn, nil_iff, true_and]
  constructor <;> intro h <;> omega

set_option maxRecDepth 100000 in
theorem ok2 (di : Int) (lcn lsn : List Int) (dt : Int) (lco lpr : List Int) (de dq : Int) (lbo lta : List Int) :
    ((((lcn.length : Int) == 12) && (((lsn.length : Int) == 12) && (isIn dt 0 1000000 && ((lco.length : Int) == 16)))) && sameD ⟨2, 0, lcn, lsn, dt, lco, [], 0, 0, [], []⟩ ⟨2, di, lcn, lsn, dt, lco, lpr, de, dq, lbo, lta⟩) = frameOk ⟨2, di, lcn, lsn, dt, lco, lpr, de, dq, lbo, lta⟩ := by
  rw [Bool.eq_iff_iff, ok_iff]
  simp only [sameD, Bool.and_eq_true, beq_iff_eq, decide_eq_true_eq, isIn, nil_iff, true_and]
  constructor <;> intro h <;> omega

set_option maxRecDepth 100000 in
theorem ok3 (di : Int) (lcn lsn : List Int) (dt : Int) (lco lpr : List Int) (de dq : Int) (lbo lta : List Int) :
    ((isIn di 1 9 && ((((lcn.length : Int) == 12) && (((lsn.length : Int) == 12) && (isIn dt 0 1000000 && ((lco.length : Int) == 16)))) && ((lpr.length : Int) == 16))) && sameD ⟨3, di, lcn, lsn, dt, lco, lpr, 0, 0, [], []⟩ ⟨3, di, lcn, lsn, dt, lco, lpr, de, dq, lbo, lta⟩) = frameOk ⟨3, di, lcn, lsn, dt, lco, lpr, de, dq, lbo, lta⟩ := by
  rw [Bool.eq_iff_iff, ok_iff]
  simp only [sameD, Bool.and_eq_true, beq_iff_eq, decide_eq_true_eq, isIn, nil_iff, true_and]
  constructor <;> intro h <;> omega

set_option maxRecDepth 100000 in
theorem ok4 (di : Int) (lcn lsn : List Int) (dt : Int) (lco lpr : List Int) (de dq : Int) (lbo lta : List Int) :
    (((((lsn.length : Int) == 12) && (isIn de 0 4294967295 && (isIn dq 0 281474976710655 && ((lta.length : Int) == 16)))) && (decide ((lbo.length : Int) ≤ 40))) && sameD ⟨4, 0, [], lsn, 0, [], [], de, dq, lbo, lta⟩ ⟨4, di, lcn, lsn, dt, lco, lpr, de, dq, lbo, lta⟩) = frameOk ⟨4, di, lcn, lsn, dt, lco, lpr, de, dq, lbo, lta⟩ := by
  rw [Bool.eq_iff_iff, ok_iff]
  have hb : bodyOk 4 (lbo.length : Int) = true ↔ (lbo.length : Int) ≤ 40 := by
      unfold bodyOk; simp; try omega
  simp only [sameD, Bool.and_eq_true, beq_iff_eq, decide_eq_true_eq, isIn, nil_iff, true_and, and_true, hb]
  constructor <;> intro h <;> omega

set_option maxRecDepth 100000 in
theorem ok5 (di : Int) (lcn lsn : List Int) (dt : Int) (lco lpr : List Int) (de dq : Int) (lbo lta : List Int) :
    (((((lsn.length : Int) == 12) && (isIn de 0 4294967295 && (isIn dq 0 281474976710655 && ((lta.length : Int) == 16)))) && ((lbo.length : Int) == 12)) && sameD ⟨5, 0, [], lsn, 0, [], [], de, dq, lbo, lta⟩ ⟨5, di, lcn, lsn, dt, lco, lpr, de, dq, lbo, lta⟩) = frameOk ⟨5, di, lcn, lsn, dt, lco, lpr, de, dq, lbo, lta⟩ := by
  rw [Bool.eq_iff_iff, ok_iff]
  have hb : bodyOk 5 (lbo.length : Int) = true ↔ lbo.length = 12 := by
      unfold bodyOk; simp; try omega
  simp only [sameD, Bool.and_eq_true, beq_iff_eq, decide_eq_true_eq, isIn, nil_iff, true_and, and_true, hb]
  constructor <;> intro h <;> omega

set_option maxRecDepth 100000 in
theorem ok6 (di : Int) (lcn lsn : List Int) (dt : Int) (lco lpr : List Int) (de dq : Int) (lbo lta : List Int) :
    (((((lsn.length : Int) == 12) && (isIn de 0 4294967295 && (isIn dq 0 281474976710655 && ((lta.length : Int) == 16)))) && ((lbo.length : Int) == 12)) && sameD ⟨6, 0, [], lsn, 0, [], [], de, dq, lbo, lta⟩ ⟨6, di, lcn, lsn, dt, lco, lpr, de, dq, lbo, lta⟩) = frameOk ⟨6, di, lcn, lsn, dt, lco, lpr, de, dq, lbo, lta⟩ := by
  rw [Bool.eq_iff_iff, ok_iff]
  have hb : bodyOk 6 (lbo.length : Int) = true ↔ lbo.length = 12 := by
      unfold bodyOk; simp; try omega
  simp only [sameD, Bool.and_eq_true, beq_iff_eq, decide_eq_true_eq, isIn, nil_iff, true_and, and_true, hb]
  constructor <;> intro h <;> omega

set_option maxRecDepth 100000 in
theorem ok7 (di : Int) (lcn lsn : List Int) (dt : Int) (lco lpr : List Int) (de dq : Int) (lbo lta : List Int) :
    (((((lsn.length : Int) == 12) && (isIn de 0 4294967295 && (isIn dq 0 281474976710655 && ((lta.length : Int) == 16)))) && ((lbo.length : Int) == 4)) && sameD ⟨7, 0, [], lsn, 0, [], [], de, dq, lbo, lta⟩ ⟨7, di, lcn, lsn, dt, lco, lpr, de, dq, lbo, lta⟩) = frameOk ⟨7, di, lcn, lsn, dt, lco, lpr, de, dq, lbo, lta⟩ := by
  rw [Bool.eq_iff_iff, ok_iff]
  have hb : bodyOk 7 (lbo.length : Int) = true ↔ lbo.length = 4 := by
      unfold bodyOk; simp; try omega
  simp only [sameD, Bool.and_eq_true, beq_iff_eq, decide_eq_true_eq, isIn, nil_iff, true_and, and_true, hb]
  constructor <;> intro h <;> omega

set_option maxRecDepth 100000 in
theorem ok8 (di : Int) (lcn lsn : List Int) (dt : Int) (lco lpr : List Int) (de dq : Int) (lbo lta : List Int) :
    (((((lsn.length : Int) == 12) && (isIn de 0 4294967295 && (isIn dq 0 281474976710655 && ((lta.length : Int) == 16)))) && ((lbo.length : Int) == 4)) && sameD ⟨8, 0, [], lsn, 0, [], [], de, dq, lbo, lta⟩ ⟨8, di, lcn, lsn, dt, lco, lpr, de, dq, lbo, lta⟩) = frameOk ⟨8, di, lcn, lsn, dt, lco, lpr, de, dq, lbo, lta⟩ := by
  rw [Bool.eq_iff_iff, ok_iff]
  have hb : bodyOk 8 (lbo.length : Int) = true ↔ lbo.length = 4 := by
      unfold bodyOk; simp; try omega
  simp only [sameD, Bool.and_eq_true, beq_iff_eq, decide_eq_true_eq, isIn, nil_iff, true_and, and_true, hb]
  constructor <;> intro h <;> omega

set_option maxRecDepth 100000 in
set_option maxHeartbeats 1600000 in
theorem implOk0 (S : FrS) (dk di dt de dq : Int) (w : World) (h1 : (dk == 1) = false) (h2 : (dk == 2) = false) (h3 : (dk == 3) = false) (h4 : (dk == 4) = false) (h5 : (dk == 5) = false) (h6 : (dk == 6) = false) (h7 : (dk == 7) = false) (h8 : (dk == 8) = false) :
    Calls Try.prog 98 #[.agg #[.int .i64 dk, .int .i64 di, .slice S.cn.a S.cn.n S.cn.c, .slice S.sn.a S.sn.n S.sn.c, .int .i64 dt, .slice S.cookie.a S.cookie.n S.cookie.c, .slice S.proof.a S.proof.n S.proof.c, .int .i64 de, .int .i64 dq, .slice S.body.a S.body.n S.body.c, .slice S.tag.a S.tag.n S.tag.c]] w fun e w' => e = .returned (.bool false) ∧ Below w.heap.size w w' := by
  obtain ⟨x0, hx0⟩ : ∃ x0, w.alloc (.cells #[.int .i64 dk, .int .i64 di, .slice S.cn.a S.cn.n S.cn.c, .slice S.sn.a S.sn.n S.sn.c, .int .i64 dt, .slice S.cookie.a S.cookie.n S.cookie.c, .slice S.proof.a S.proof.n S.proof.c, .int .i64 de, .int .i64 dq, .slice S.body.a S.body.n S.body.c, .slice S.tag.a S.tag.n S.tag.c] 39) = x0 := ⟨_, rfl⟩
  have HW0 : Hid (w.alloc (.cells #[.int .i64 dk, .int .i64 di, .slice S.cn.a S.cn.n S.cn.c, .slice S.sn.a S.sn.n S.sn.c, .int .i64 dt, .slice S.cookie.a S.cookie.n S.cookie.c, .slice S.proof.a S.proof.n S.proof.c, .int .i64 de, .int .i64 dq, .slice S.body.a S.body.n S.body.c, .slice S.tag.a S.tag.n S.tag.c] 39) = x0) := hx0
  have B0 : Hid (Below w.heap.size w x0) := by rw [← hx0]; exact (Below.refl _ _).alloc (Nat.le_refl _) _
  clear hx0
  have q0 := ne0
  go_enter Try.func98, Try.ntmps98
  go_wp2_with fail
  rw [HW0.out]
  refine (wordOf0 dk di S.cn S.sn dt S.cookie S.proof de dq S.body S.tag h1 h2 h3 h4 h5 h6 h7 h8 x0).mono ?_
  rintro e x1 ⟨rfl, b1⟩
  have B1 : Hid (Below w.heap.size w x1) := B0.out.trans (b1.mono B0.out.size)
  clear b1
  go_upto_region 2 with fail
  go_quiet (fail)
  go_wp2
  go_ret
  exact ⟨by simp, below_drewN B1.out _⟩

set_option maxRecDepth 100000 in
theorem implFrameOk (S : FrS) (D : FrD) (w : World) (h : FrRd w S D) :
    Calls Try.prog 98 #[frV D S] w fun e w' => e = .returned (.bool (frameOk D)) ∧ Below w.heap.size w w' := by
  obtain ⟨dk, di, lcn, lsn, dt, lco, lpr, de, dq, lbo, lta⟩ := D
  have hcn : S.cn.n = lcn.length := h.cn.len
  have hsn : S.sn.n = lsn.length := h.sn.len
  have hco : S.cookie.n = lco.length := h.cookie.len
  have hpr : S.proof.n = lpr.length := h.proof.len
  have hbo : S.body.n = lbo.length := h.body.len
  have hta : S.tag.n = lta.length := h.tag.len
  show Calls Try.prog 98 #[.agg #[.int .i64 dk, .int .i64 di, .slice S.cn.a S.cn.n S.cn.c, .slice S.sn.a S.sn.n S.sn.c, .int .i64 dt, .slice S.cookie.a S.cookie.n S.cookie.c, .slice S.proof.a S.proof.n S.proof.c, .int .i64 de, .int .i64 dq, .slice S.body.a S.body.n S.body.c, .slice S.tag.a S.tag.n S.tag.c]] w _
  by_cases k1 : dk = 1
  · subst k1
    have := implOk1 S di lcn lsn dt lco lpr de dq lbo lta w h
    rw [hcn, ok1] at this
    rw [hcn]
    exact this
  by_cases k2 : dk = 2
  · subst k2
    have := implOk2 S di lcn lsn dt lco lpr de dq lbo lta w h
    rw [hcn, hsn, hco, ok2] at this
    rw [hcn, hsn, hco]
    exact this
  by_cases k3 : dk = 3
  · subst k3
    have := implOk3 S di lcn lsn dt lco lpr de dq lbo lta w h
    rw [hcn, hsn, hco, hpr, ok3] at this
    rw [hcn, hsn, hco, hpr]
    exact this
  by_cases k4 : dk = 4
  · subst k4
    have := implOk4 S di lcn lsn dt lco lpr de dq lbo lta w h
    rw [hsn, hbo, hta, ok4] at this
    rw [hsn, hbo, hta]
    exact this
  by_cases k5 : dk = 5
  · subst k5
    have := implOk5 S di lcn lsn dt lco lpr de dq lbo lta w h
    rw [hsn, hbo, hta, ok5] at this
    rw [hsn, hbo, hta]
    exact this
  by_cases k6 : dk = 6
  · subst k6
    have := implOk6 S di lcn lsn dt lco lpr de dq lbo lta w h
    rw [hsn, hbo, hta, ok6] at this
    rw [hsn, hbo, hta]
    exact this
  by_cases k7 : dk = 7
  · subst k7
    have := implOk7 S di lcn lsn dt lco lpr de dq lbo lta w h
    rw [hsn, hbo, hta, ok7] at this
    rw [hsn, hbo, hta]
    exact this
  by_cases k8 : dk = 8
  · subst k8
    have := implOk8 S di lcn lsn dt lco lpr de dq lbo lta w h
    rw [hsn, hbo, hta, ok8] at this
    rw [hsn, hbo, hta]
    exact this
  have hn : frameOk ⟨dk, di, lcn, lsn, dt, lco, lpr, de, dq, lbo, lta⟩ = false := by
    cases hc : frameOk ⟨dk, di, lcn, lsn, dt, lco, lpr, de, dq, lbo, lta⟩ with
    | false => rfl
    | true => have := ok_kind _ hc; simp only at this; omega
  rw [hn]
  exact implOk0 S dk di dt de dq w (by simpa using k1) (by simpa using k2) (by simpa using k3) (by simpa using k4) (by simpa using k5) (by simpa using k6) (by simpa using k7) (by simpa using k8)

end Go.Proofs.Ytmcflfpckpjphaa.FrO2

namespace Go.Proofs.Ytmcflfpckpjphaa.FrQ3
open Go.RowKit Go.Proofs.Ytmcflfpckpjphaa.Mem Go.Proofs.Ytmcflfpckpjphaa.App Go.Proofs.Ytmcflfpckpjphaa.Blk Go.Proofs.Ytmcflfpckpjphaa.Words Go.Proofs.Ytmcflfpckpjphaa.Zone Go.Proofs.Ytmcflfpckpjphaa.Res Go.Proofs.Ytmcflfpckpjphaa.FrZ Go.Proofs.Ytmcflfpckpjphaa.FrP Go.Proofs.Ytmcflfpckpjphaa.FrB Go.Proofs.Ytmcflfpckpjphaa.FrT Go.Proofs.Ytmcflfpckpjphaa.FrW Go.Proofs.Ytmcflfpckpjphaa.FrW2 Go.Proofs.Ytmcflfpckpjphaa.FrW3 Go.Proofs.Ytmcflfpckpjphaa.FrQ Go.Proofs.Ytmcflfpckpjphaa.FrQ2 Go.Proofs.Ytmcflfpckpjphaa.FrO2

set_option maxRecDepth 100000 in
theorem putN_one (x : Int) (h0 : 0 ≤ x) (h1 : x ≤ 255) : putN x 1 = [x] := by
  show num x 1 = [x]
  show [x / 2 ^ (8 * 0) % 256] = [x]
  congr 1
  simp
  omega
set_option maxRecDepth 100000 in
theorem short_ok (D : FrD) (h : frameOk D = true) : FrShort D 100 := by
  obtain ⟨h1, h2, h3, h4, h5, h6⟩ := ok_lens D h
  exact ⟨by omega, by omega, by omega, by omega, by omega, by omega⟩

set_option maxRecDepth 100000 in
theorem lay1 (D : FrD) (h : frameOk D = true) (k : D.kind = 1) : [] ++ putN 1 1 ++ putN D.id 1 ++ D.cn ++ List.replicate 20 0 = putF D := by
  rw [putF_1 D h (by rw [k]; rfl), k, putN_one 1 (by omega) (by omega), putN_one D.id (by have := ok_id1 D h (by rw [k]; rfl); omega) (by have := ok_id1 D h (by rw [k]; rfl); omega)]; rfl
set_option maxRecDepth 100000 in
theorem lay2 (D : FrD) (h : frameOk D = true) (k : D.kind = 2) : [] ++ putN 2 1 ++ D.cn ++ D.sn ++ putN D.tick 4 ++ D.cookie = putF D := by
  rw [putF_2 D h (by rw [k]; rfl) (by rw [k]; rfl), k]; rfl
set_option maxRecDepth 100000 in
theorem lay3 (D : FrD) (h : frameOk D = true) (k : D.kind = 3) : [] ++ putN 3 1 ++ putN D.id 1 ++ D.cn ++ D.sn ++ putN D.tick 4 ++ D.cookie ++ D.proof = putF D := by
  rw [putF_3 D h (by rw [k]; rfl) (by rw [k]; rfl) (by rw [k]; rfl), k, putN_one D.id (by have := ok_id3 D h (by rw [k]; rfl); omega) (by have := ok_id3 D h (by rw [k]; rfl); omega)]; rfl
set_option maxRecDepth 100000 in
theorem lay4 (D : FrD) (h : frameOk D = true) (k : D.kind = 4) : [] ++ putN 4 1 ++ D.sn ++ putN D.epoch 4 ++ putN D.seq 6 ++ D.tag ++ D.body = putF D := by
  rw [putF_s D h (by rw [k]; rfl) (by rw [k]; rfl) (by rw [k]; rfl), k]; rfl
set_option maxRecDepth 100000 in
theorem lay5 (D : FrD) (h : frameOk D = true) (k : D.kind = 5) : [] ++ putN 5 1 ++ D.sn ++ putN D.epoch 4 ++ putN D.seq 6 ++ D.tag ++ D.body = putF D := by
  rw [putF_s D h (by rw [k]; rfl) (by rw [k]; rfl) (by rw [k]; rfl), k]; rfl
set_option maxRecDepth 100000 in
theorem lay6 (D : FrD) (h : frameOk D = true) (k : D.kind = 6) : [] ++ putN 6 1 ++ D.sn ++ putN D.epoch 4 ++ putN D.seq 6 ++ D.tag ++ D.body = putF D := by
  rw [putF_s D h (by rw [k]; rfl) (by rw [k]; rfl) (by rw [k]; rfl), k]; rfl
set_option maxRecDepth 100000 in
theorem lay7 (D : FrD) (h : frameOk D = true) (k : D.kind = 7) : [] ++ putN 7 1 ++ D.sn ++ putN D.epoch 4 ++ putN D.seq 6 ++ D.tag ++ D.body = putF D := by
  rw [putF_s D h (by rw [k]; rfl) (by rw [k]; rfl) (by rw [k]; rfl), k]; rfl
set_option maxRecDepth 100000 in
theorem lay8 (D : FrD) (h : frameOk D = true) (k : D.kind = 8) : [] ++ putN 8 1 ++ D.sn ++ putN D.epoch 4 ++ putN D.seq 6 ++ D.tag ++ D.body = putF D := by
  rw [putF_s D h (by rw [k]; rfl) (by rw [k]; rfl) (by rw [k]; rfl), k]; rfl

end Go.Proofs.Ytmcflfpckpjphaa.FrQ3

namespace Go.Proofs.Ytmcflfpckpjphaa.SlP
open Go.RowKit Go.Proofs.Ytmcflfpckpjphaa.Mem Go.Proofs.Ytmcflfpckpjphaa.App Go.Proofs.Ytmcflfpckpjphaa.Words Go.Proofs.Ytmcflfpckpjphaa.FrZ Go.Proofs.Ytmcflfpckpjphaa.FrP Go.Proofs.Ytmcflfpckpjphaa.FrG Go.Proofs.Ytmcflfpckpjphaa.Get

/-- Whether there is a head of these. -/
def headOk (role : Int) (n : Int) (epoch seq : Int) : Bool := isIn role 0 1 && ((n == 12) && (isIn epoch 0 4294967295 && isIn seq 0 281474976710655))
set_option maxRecDepth 100000 in
theorem headOk_iff (role n epoch seq : Int) : headOk role n epoch seq = true ↔ (0 ≤ role ∧ role ≤ 1) ∧ n = 12 ∧ (0 ≤ epoch ∧ epoch ≤ 4294967295) ∧ (0 ≤ seq ∧ seq ≤ 281474976710655) := by
  unfold headOk isIn; simp [and_assoc]
/-- The head. -/
def headL (role : Int) (sn : List Int) (epoch seq : Int) : List Int := if headOk role sn.length epoch seq = true then [role] ++ sn ++ num epoch 4 ++ num seq 6 else []
set_option maxRecDepth 100000 in
theorem headL_no (role : Int) (sn : List Int) (epoch seq : Int) (h : headOk role sn.length epoch seq = false) : headL role sn epoch seq = [] := by unfold headL; rw [if_neg (by rw [h]; simp)]
set_option maxRecDepth 100000 in
theorem headL_yes (role : Int) (sn : List Int) (epoch seq : Int) (h : headOk role sn.length epoch seq = true) : headL role sn epoch seq = [role] ++ sn ++ num epoch 4 ++ num seq 6 := by unfold headL; rw [if_pos h]
set_option maxRecDepth 100000 in
theorem headL_len (role : Int) (sn : List Int) (epoch seq : Int) (h : headOk role sn.length epoch seq = true) : (headL role sn epoch seq).length = 23 := by
  rw [headL_yes role sn epoch seq h]
  have := ((headOk_iff _ _ _ _).1 h).2.1
  simp [num_length]; omega
set_option maxRecDepth 100000 in
theorem headL_le (role : Int) (sn : List Int) (epoch seq : Int) : (headL role sn epoch seq).length ≤ 23 := by
  by_cases h : headOk role sn.length epoch seq = true
  · rw [headL_len role sn epoch seq h]; exact Nat.le_refl _
  · rw [headL_no role sn epoch seq (by simpa using h)]; simp
set_option maxRecDepth 100000 in
theorem bytes_app {a b : List Int} (ha : Bytes a) (hb : Bytes b) : Bytes (a ++ b) := fun z hz => by
  rcases List.mem_append.1 hz with h | h
  · exact ha z h
  · exact hb z h
set_option maxRecDepth 100000 in
theorem bytes_one {z : Int} (h0 : 0 ≤ z) (h1 : z ≤ 255) : Bytes [z] := fun y hy => by simp at hy; omega
set_option maxRecDepth 100000 in
theorem headL_bytes (role : Int) (sn : List Int) (epoch seq : Int) (hb : Bytes sn) : Bytes (headL role sn epoch seq) := by
  by_cases h : headOk role sn.length epoch seq = true
  · rw [headL_yes role sn epoch seq h]
    have h1 := ((headOk_iff _ _ _ _).1 h).1
    exact bytes_app (bytes_app (bytes_app (bytes_one h1.1 (by omega)) hb) (num_bytes _ _)) (num_bytes _ _)
  · rw [headL_no role sn epoch seq (by simpa using h)]; exact fun z hz => by cases hz
set_option maxRecDepth 100000 in
theorem headL_nil (role : Int) (sn : List Int) (epoch seq : Int) : ((headL role sn epoch seq).length = 0) ↔ headOk role sn.length epoch seq = false := by
  constructor
  · intro h
    by_cases k : headOk role sn.length epoch seq = true
    · rw [headL_len _ _ _ _ k] at h; cases h
    · simpa using k
  · intro h; rw [headL_no _ _ _ _ h]; rfl

/-- Whether a frame's tag can be made. -/
def canTag (role : Int) (D : FrD) : Bool := isIn role 0 1 && (isIn D.kind 4 8 && frameOk D)
/-- What the tag is of. -/
def tagIn (role : Int) (D : FrD) : List Int := if canTag role D = true then [116] ++ headL role D.sn D.epoch D.seq ++ [D.kind] ++ D.body else []
set_option maxRecDepth 100000 in
theorem tagIn_no (role : Int) (D : FrD) (h : canTag role D = false) : tagIn role D = [] := by unfold tagIn; rw [if_neg (by rw [h]; simp)]
set_option maxRecDepth 100000 in
theorem tagIn_yes (role : Int) (D : FrD) (h : canTag role D = true) : tagIn role D = [116] ++ headL role D.sn D.epoch D.seq ++ [D.kind] ++ D.body := by unfold tagIn; rw [if_pos h]
set_option maxRecDepth 100000 in
theorem canTag_parts {role : Int} {D : FrD} (h : canTag role D = true) : (0 ≤ role ∧ role ≤ 1) ∧ (4 ≤ D.kind ∧ D.kind ≤ 8) ∧ frameOk D = true := by
  unfold canTag isIn at h; simp at h; exact ⟨h.1, h.2.1, h.2.2⟩
set_option maxRecDepth 100000 in
theorem canTag_of {role : Int} {D : FrD} (h1 : 0 ≤ role ∧ role ≤ 1) (h2 : 4 ≤ D.kind ∧ D.kind ≤ 8) (h3 : frameOk D = true) : canTag role D = true := by
  unfold canTag isIn; simp [h1, h2, h3]
set_option maxRecDepth 100000 in
theorem canTag_eq (role : Int) (D : FrD) : (isIn role 0 1 && (frameOk D && isIn D.kind 4 8)) = canTag role D := by
  unfold canTag; cases isIn role 0 1 <;> cases frameOk D <;> cases isIn D.kind 4 8 <;> rfl
set_option maxRecDepth 100000 in
/-- A right sealed frame's parts. -/
theorem sealed_parts {D : FrD} (hk : 4 ≤ D.kind ∧ D.kind ≤ 8) : frameOk D = true ↔ D.id = 0 ∧ D.cn = [] ∧ D.sn.length = 12 ∧ D.tick = 0 ∧ D.cookie = [] ∧ D.proof = [] ∧ (0 ≤ D.epoch ∧ D.epoch ≤ 4294967295) ∧ (0 ≤ D.seq ∧ D.seq ≤ 281474976710655) ∧ bodyOk D.kind D.body.length = true ∧ D.tag.length = 16 := by
  unfold frameOk okS
  rw [if_pos (isIn_yes hk)]
  unfold isIn
  simp only [Bool.and_eq_true, beq_iff_eq, decide_eq_true_eq]
  constructor
  · rintro ⟨h1, h2, h3, h4, h5, h6, h7, h8, h9, h10⟩
    exact ⟨h1, List.length_eq_zero_iff.1 (by omega), by omega, h4, List.length_eq_zero_iff.1 (by omega), List.length_eq_zero_iff.1 (by omega), h7, h8, h9, by omega⟩
  · rintro ⟨h1, h2, h3, h4, h5, h6, h7, h8, h9, h10⟩
    exact ⟨h1, by rw [h2]; rfl, by omega, h4, by rw [h5]; rfl, by rw [h6]; rfl, h7, h8, h9, by omega⟩
set_option maxRecDepth 100000 in
theorem canTag_head {role : Int} {D : FrD} (h : canTag role D = true) : headOk role D.sn.length D.epoch D.seq = true := by
  obtain ⟨h1, h2, h3⟩ := canTag_parts h
  obtain ⟨_, _, h6, _, _, _, h7, h8, _, _⟩ := (sealed_parts h2).1 h3
  exact (headOk_iff _ _ _ _).2 ⟨h1, by omega, h7, h8⟩
set_option maxRecDepth 100000 in
theorem bodyOk_le {k n : Int} (h : bodyOk k n = true) : n ≤ 40 := by
  unfold bodyOk at h
  split at h
  · simpa using h
  · split at h <;> simp at h <;> omega
set_option maxRecDepth 100000 in
theorem canTag_body {role : Int} {D : FrD} (h : canTag role D = true) : D.body.length ≤ 40 := by
  obtain ⟨h1, h2, h3⟩ := canTag_parts h
  obtain ⟨_, _, h6, _, _, _, h7, h8, h9, _⟩ := (sealed_parts h2).1 h3
  have := bodyOk_le h9; omega
set_option maxRecDepth 100000 in
theorem tagIn_len {role : Int} {D : FrD} (h : canTag role D = true) : (tagIn role D).length = 25 + D.body.length := by
  rw [tagIn_yes role D h]
  have := headL_len _ _ _ _ (canTag_head h)
  simp [this]; omega
set_option maxRecDepth 100000 in
theorem tagIn_le (role : Int) (D : FrD) : (tagIn role D).length ≤ 65 := by
  by_cases h : canTag role D = true
  · rw [tagIn_len h]; have := canTag_body h; omega
  · rw [tagIn_no role D (by simpa using h)]; simp
set_option maxRecDepth 100000 in
theorem tagIn_bytes (role : Int) (D : FrD) (h1 : Bytes D.sn) (h2 : Bytes D.body) : Bytes (tagIn role D) := by
  by_cases h : canTag role D = true
  · rw [tagIn_yes role D h]
    have hk := (canTag_parts h).2.1
    exact bytes_app (bytes_app (bytes_app (bytes_one (by omega) (by omega)) (headL_bytes _ _ _ _ h1)) (bytes_one (by omega) (by omega))) h2
  · rw [tagIn_no role D (by simpa using h)]; exact fun z hz => by cases hz
set_option maxRecDepth 100000 in
theorem tagIn_nil (role : Int) (D : FrD) : ((tagIn role D).length = 0) ↔ canTag role D = false := by
  constructor
  · intro h
    by_cases k : canTag role D = true
    · rw [tagIn_len k] at h; omega
    · simpa using k
  · intro h; rw [tagIn_no _ _ h]; rfl
set_option maxRecDepth 100000 in
/-- Heads of unlike parts are unlike. -/
theorem headL_inj {r r' : Int} {sn sn' : List Int} {e e' s s' : Int} (h : headOk r sn.length e s = true) (h' : headOk r' sn'.length e' s' = true) (he : headL r sn e s = headL r' sn' e' s') : r = r' ∧ sn = sn' ∧ e = e' ∧ s = s' := by
  rw [headL_yes _ _ _ _ h, headL_yes _ _ _ _ h'] at he
  obtain ⟨_, a1, a2, a3⟩ := (headOk_iff _ _ _ _).1 h
  obtain ⟨_, b1, b2, b3⟩ := (headOk_iff _ _ _ _).1 h'
  have l1 : sn.length = sn'.length := by omega
  rw [List.append_assoc, List.append_assoc, List.append_assoc, List.append_assoc] at he
  obtain ⟨h0, hA⟩ := List.append_inj he rfl
  obtain ⟨h1, hB⟩ := List.append_inj hA l1
  obtain ⟨he1, he2⟩ := List.append_inj hB (by rw [num_length, num_length])
  have h2 : r = r' := by simpa using h0
  exact ⟨h2, h1, num_inj e e' 4 a2.1 (by omega) b2.1 (by omega) he1, num_inj s s' 6 a3.1 (by omega) b3.1 (by omega) he2⟩
end Go.Proofs.Ytmcflfpckpjphaa.SlP

namespace Go.Proofs.Ytmcflfpckpjphaa.SlS
open Go.RowKit Go.Proofs.Ytmcflfpckpjphaa.Mem Go.Proofs.Ytmcflfpckpjphaa.App Go.Proofs.Ytmcflfpckpjphaa.AppAt Go.Proofs.Ytmcflfpckpjphaa.AppStep Go.Proofs.Ytmcflfpckpjphaa.Blk Go.Proofs.Ytmcflfpckpjphaa.Words Go.Proofs.Ytmcflfpckpjphaa.Zone Go.Proofs.Ytmcflfpckpjphaa.Res Go.Proofs.Ytmcflfpckpjphaa.FrZ Go.Proofs.Ytmcflfpckpjphaa.FrP Go.Proofs.Ytmcflfpckpjphaa.FrG Go.Proofs.Ytmcflfpckpjphaa.FrQ Go.Proofs.Ytmcflfpckpjphaa.FrS Go.Proofs.Ytmcflfpckpjphaa.FrQ2 Go.Proofs.Ytmcflfpckpjphaa.SlP

set_option maxRecDepth 100000 in
theorem new_nil {w x : World} (b : Below w.heap.size w x) : New w [] (.returned (.slice (some ⟨x.heap.size, 0, none⟩) 0 0)) (x.alloc (.cells #[] 5)) :=
  ⟨x.heap.size, 0, 0, rfl, rfl, b.size, ⟨Nat.le_refl _, by unfold maxLen; omega, #[], heap_alloc_new x _, rfl, rfl⟩, b.alloc b.size _⟩
set_option maxRecDepth 100000 in
theorem putNum (n : Int) (k : Nat) (h : 1 ≤ k) (h6 : k ≤ 6) : putN n (k : Int) = num n k := by unfold putN; rw [if_pos (by omega)]; rfl
set_option maxRecDepth 100000 in
theorem lay_head {role : Int} {l : List Int} {epoch seq : Int} (h : headOk role l.length epoch seq = true) : [role] ++ l ++ putN epoch 4 ++ putN seq 6 = headL role l epoch seq := by
  rw [headL_yes _ _ _ _ h]; rfl
set_option maxRecDepth 100000 in
theorem sputK (s : Sl) (x : List Int) (n k : Int) (w : World) (hx : SRd w s x) (lx : x.length ≤ 100000) :
    Calls Try.prog 73 #[.slice s.a s.n s.c, .int .i64 n, .int .i64 k] w (New w (x ++ putN n k)) := specPutN s.a s.n s.c x n k w hx.len hx.rd hx.nil (by omega)

set_option maxRecDepth 100000 in
set_option maxHeartbeats 8000000 in
theorem specHeadOf (role : Int) (s : Sl) (l : List Int) (epoch seq : Int) (w : World) (h : SRd w s l) :
    Calls Try.prog 24 #[.int .i64 role, .slice s.a s.n s.c, .int .i64 epoch, .int .i64 seq] w (New w (headL role l epoch seq)) := by
  have HR : Hid (SRd w s l) := h
  obtain ⟨H, hH⟩ : ∃ H, headL role l epoch seq = H := ⟨_, rfl⟩
  have HH : Hid (headL role l epoch seq = H) := hH
  have HN : Hid (s.n = l.length) := h.len
  have HC : Hid (s.a = none → s.c = 0) := h.nil
  rw [hH]
  clear h hH
  obtain ⟨sa, sn, sc⟩ := s
  go_enter Try.func24, Try.ntmps24
  go_wp2_with fail
  refine (l1In role 0 1 w).mono ?_
  rintro e y ⟨rfl, rfl⟩
  cases h0 : (isIn role 0 1) with
  | false =>
    have HF : Hid (headL role l epoch seq = []) := headL_no _ _ _ _ (by have hn := HN.out; unfold headOk; rw [← hn]; simp [h0])
    obtain rfl : H = [] := by rw [← HH.out, HF.out]
    go_wp2
    go_ret
    exact new_nil (Below.refl _ _)
  | true =>
    cases h1 : ((sn : Int) == 12) with
    | false =>
      have hne : ((sn : Int) != 12) = true := by simpa using h1
      have HF : Hid (headL role l epoch seq = []) := headL_no _ _ _ _ (by have hn := HN.out; unfold headOk; rw [← hn]; simp [h0, h1])
      obtain rfl : H = [] := by rw [← HH.out, HF.out]
      go_wp2
      go_ret
      exact new_nil (Below.refl _ _)
    | true =>
      have hne : ((sn : Int) != 12) = false := by simpa using h1
      go_wp2_with fail
      refine (l1In epoch 0 4294967295 w).mono ?_
      rintro e y ⟨rfl, rfl⟩
      cases h2 : (isIn epoch 0 4294967295) with
      | false =>
        have HF : Hid (headL role l epoch seq = []) := headL_no _ _ _ _ (by have hn := HN.out; unfold headOk; rw [← hn]; simp [h0, h1, h2])
        obtain rfl : H = [] := by rw [← HH.out, HF.out]
        go_wp2
        go_ret
        exact new_nil (Below.refl _ _)
      | true =>
        go_wp2_with fail
        refine (l1In seq 0 281474976710655 w).mono ?_
        rintro e y ⟨rfl, rfl⟩
        cases h3 : (isIn seq 0 281474976710655) with
        | false =>
          have HF : Hid (headL role l epoch seq = []) := headL_no _ _ _ _ (by have hn := HN.out; unfold headOk; rw [← hn]; simp [h0, h1, h2, h3])
          obtain rfl : H = [] := by rw [← HH.out, HF.out]
          go_wp2
          go_ret
          exact new_nil (Below.refl _ _)
        | true =>
          have HY : Hid (headOk role l.length epoch seq = true) := by have hn := HN.out; show headOk _ _ _ _ = true; unfold headOk; rw [← hn]; simp [h0, h1, h2, h3]
          have HL : Hid (l.length = 12) := by have := ((headOk_iff _ _ _ _).1 HY.out).2.1; show _ = _; omega
          have hrw : IntKind.u8.wrap role = role := by have := ((headOk_iff _ _ _ _).1 HY.out).1; rw [IntKind.wrap_u8']; omega
          clear h0 h1 h2 h3
          have A0 : Hid (Below w.heap.size w (w.alloc (.cells #[.int .u8 role] 5))) := (Below.refl _ _).alloc (Nat.le_refl _) _
          have R0 : Hid (Row (w.alloc (.cells #[.int .u8 role] 5)) w.heap.size 1 [role]) := row_new w [role] (by simp [maxLen])
          go_wp2_with (at_builtin; refine wpList_app _ rfl (.tmp 30) (.tmp 31) rfl w.heap.size w.heap.size 1 1 [role] l rfl rfl R0.out (Nat.le_refl _) sa sn sc rfl HN.out (HR.out.rd.later A0.out (Nat.le_refl _)) HC.out (by have := HL.out; rw [List.length_singleton]; omega) ?_; intro g2 c2 x2 rr2 b2 ll2 gr2; have R2 : Hid (Row x2 g2 c2 ([role] ++ l)) := rr2; have B2 : Hid (Below w.heap.size w x2) := A0.out.grown gr2 A0.out.size (fun k h => by cases h; exact Nat.le_refl _); clear rr2 b2 ll2 gr2)
          have EM2 : Hid (1 + sn = ([role] ++ l).length) := by have hn := HN.out; show _ = _; rw [List.length_append, ← hn]; rfl
          have LN2 : Hid (([role] ++ l).length ≤ 30) := by show _ ≤ _; have := HL.out; rw [List.length_append]; simp; omega
          have Y2 : Hid (Bytes ([role] ++ l)) := bytes_app (bytes_one (by have := ((headOk_iff _ _ _ _).1 HY.out).1; omega) (by have := ((headOk_iff _ _ _ _).1 HY.out).1; omega)) HR.out.bytes
          refine (sputK ⟨some ⟨g2, 0, none⟩, 1 + sn, c2⟩ ([role] ++ l) epoch 4 x2 (rowRd R2.out EM2.out Y2.out) (by have := LN2.out; omega)).mono ?_
          rintro e x3 ⟨g3, m3, c3, rfl, em3, k3, r3, b3⟩
          have R3 : Hid (Row x3 g3 c3 ([role] ++ l ++ putN epoch 4)) := r3
          have EM3 : Hid (m3 = ([role] ++ l ++ putN epoch 4).length) := em3
          have B3 : Hid (Below w.heap.size w x3) := B2.out.trans (b3.mono B2.out.size)
          have LN3 : Hid (([role] ++ l ++ putN epoch 4).length ≤ 40) := by show _ ≤ _; have := LN2.out; have := putN_length epoch 4; rw [List.length_append]; omega
          have Y3 : Hid (Bytes ([role] ++ l ++ putN epoch 4)) := bytes_app Y2.out (putN_bytes _ _)
          clear em3 k3 r3 b3
          go_wp2_with fail
          refine (sputK ⟨some ⟨g3, 0, none⟩, m3, c3⟩ ([role] ++ l ++ putN epoch 4) seq 6 x3 (rowRd R3.out EM3.out Y3.out) (by have := LN3.out; omega)).mono ?_
          rintro e x4 ⟨g4, m4, c4, rfl, em4, k4, r4, b4⟩
          have R4 : Hid (Row x4 g4 c4 H) := by rw [← HH.out, ← lay_head HY.out]; exact r4
          have EM4 : Hid (m4 = H.length) := by rw [← HH.out, ← lay_head HY.out]; exact em4
          have B4 : Hid (Below w.heap.size w x4) := B3.out.trans (b4.mono B3.out.size)
          have GE4 : Hid (w.heap.size ≤ g4) := Nat.le_trans B3.out.size k4
          clear em4 k4 r4 b4
          go_wp2
          go_ret
          exact ⟨g4, m4, c4, by simp, EM4.out, GE4.out, R4.out, B4.out⟩

set_option maxRecDepth 100000 in
theorem lay_tag {role : Int} {D : FrD} (h : canTag role D = true) : [116] ++ headL role D.sn D.epoch D.seq ++ [D.kind] ++ D.body = tagIn role D := (tagIn_yes _ _ h).symm
set_option maxRecDepth 100000 in
set_option maxHeartbeats 8000000 in
theorem specTagInput (role : Int) (S : FrS) (D : FrD) (w : World) (h : FrRd w S D) :
    Calls Try.prog 25 #[.int .i64 role, frV D S] w (New w (tagIn role D)) := by
  obtain ⟨H, hH⟩ : ∃ H, tagIn role D = H := ⟨_, rfl⟩
  have HH : Hid (tagIn role D = H) := hH
  rw [hH]
  clear hH
  have HR : Hid (FrRd w S D) := h
  obtain ⟨x0, hx0⟩ : ∃ x0, w.alloc (.cells #[.int .i64 D.kind, .int .i64 D.id, .slice S.cn.a S.cn.n S.cn.c, .slice S.sn.a S.sn.n S.sn.c, .int .i64 D.tick, .slice S.cookie.a S.cookie.n S.cookie.c, .slice S.proof.a S.proof.n S.proof.c, .int .i64 D.epoch, .int .i64 D.seq, .slice S.body.a S.body.n S.body.c, .slice S.tag.a S.tag.n S.tag.c] 39) = x0 := ⟨_, rfl⟩
  have HW0 : Hid (w.alloc (.cells #[.int .i64 D.kind, .int .i64 D.id, .slice S.cn.a S.cn.n S.cn.c, .slice S.sn.a S.sn.n S.sn.c, .int .i64 D.tick, .slice S.cookie.a S.cookie.n S.cookie.c, .slice S.proof.a S.proof.n S.proof.c, .int .i64 D.epoch, .int .i64 D.seq, .slice S.body.a S.body.n S.body.c, .slice S.tag.a S.tag.n S.tag.c] 39) = x0) := hx0
  have B0 : Hid (Below w.heap.size w x0) := by rw [← hx0]; exact (Below.refl _ _).alloc (Nat.le_refl _) _
  have K0 : Hid (Blk x0 w.heap.size 39 [.int .i64 D.kind, .int .i64 D.id, .slice S.cn.a S.cn.n S.cn.c, .slice S.sn.a S.sn.n S.sn.c, .int .i64 D.tick, .slice S.cookie.a S.cookie.n S.cookie.c, .slice S.proof.a S.proof.n S.proof.c, .int .i64 D.epoch, .int .i64 D.seq, .slice S.body.a S.body.n S.body.c, .slice S.tag.a S.tag.n S.tag.c]) := by rw [← hx0]; exact Blk.new w _ _
  clear hx0 h
  unfold frV
  go_enter Try.func25, Try.ntmps25
  go_upto_region 1 with fail
  rw [HW0.out]
  obtain ⟨ga, hga⟩ : ∃ ga, w.heap.size = ga := ⟨_, rfl⟩
  have HGA : Hid (w.heap.size = ga) := hga
  rw [hga] at K0
  rw [hga]
  clear hga
  have d0 := K0.out.cell 0 rfl
  have d1 := K0.out.cell 1 rfl
  have d2 := K0.out.cell 2 rfl
  have d3 := K0.out.cell 3 rfl
  have d4 := K0.out.cell 4 rfl
  have d5 := K0.out.cell 5 rfl
  have d6 := K0.out.cell 6 rfl
  have d7 := K0.out.cell 7 rfl
  have d8 := K0.out.cell 8 rfl
  have d9 := K0.out.cell 9 rfl
  have d10 := K0.out.cell 10 rfl
  go_wp2_with fail
  refine (l1In role 0 1 x0).mono ?_
  rintro e y ⟨rfl, rfl⟩
  cases h0 : isIn role 0 1 with
  | false =>
    obtain rfl : H = [] := by rw [← HH.out]; exact tagIn_no _ _ (by unfold canTag; simp [h0])
    go_wp2
    go_ret
    exact new_nil B0.out
  | true =>
    go_wp2_with fail
    refine (specFrameOk S D x0 (HR.out.later B0.out)).mono ?_
    rintro e x1 ⟨rfl, b1⟩
    have B1 : Hid (Below w.heap.size w x1) := B0.out.trans (b1.mono B0.out.size)
    have K1 : Hid (Blk x1 ga 39 [.int .i64 D.kind, .int .i64 D.id, .slice S.cn.a S.cn.n S.cn.c, .slice S.sn.a S.sn.n S.sn.c, .int .i64 D.tick, .slice S.cookie.a S.cookie.n S.cookie.c, .slice S.proof.a S.proof.n S.proof.c, .int .i64 D.epoch, .int .i64 D.seq, .slice S.body.a S.body.n S.body.c, .slice S.tag.a S.tag.n S.tag.c]) := K0.out.later b1
    clear b1 d0 d1 d2 d3 d4 d5 d6 d7 d8 d9 d10
    cases h1 : frameOk D with
    | false =>
      obtain rfl : H = [] := by rw [← HH.out]; exact tagIn_no _ _ (by unfold canTag; simp [h1])
      go_wp2
      go_ret
      exact new_nil B1.out
    | true =>
      have d0 := K1.out.cell 0 rfl
      go_wp2_with fail
      refine (specSealed D.kind x1).mono ?_
      rintro e y ⟨rfl, rfl⟩
      cases h2 : isIn D.kind 4 8 with
      | false =>
        obtain rfl : H = [] := by rw [← HH.out]; exact tagIn_no _ _ (by unfold canTag; simp [h2])
        go_wp2
        go_ret
        exact new_nil B1.out
      | true =>
        have HC : Hid (canTag role D = true) := by show canTag _ _ = true; unfold canTag; simp [h0, h1, h2]
        have HHL : Hid ((headL role D.sn D.epoch D.seq).length ≤ 23) := headL_le _ _ _ _
        have HBL : Hid (D.body.length ≤ 40) := canTag_body HC.out
        have hkw : IntKind.u8.wrap D.kind = D.kind := by have := (canTag_parts HC.out).2.1; rw [IntKind.wrap_u8']; omega
        clear h0 h1 h2
        obtain ⟨x2, hx2⟩ : ∃ x2, x1.alloc (.cells #[.int .u8 116] 5) = x2 := ⟨_, rfl⟩
        have HW2 : Hid (x1.alloc (.cells #[.int .u8 116] 5) = x2) := hx2
        have b2 : Below x1.heap.size x1 x2 := by rw [← hx2]; exact (Below.refl _ _).alloc (Nat.le_refl _) _
        have B2 : Hid (Below w.heap.size w x2) := B1.out.trans (b2.mono B1.out.size)
        have RN : Hid (Row x2 x1.heap.size 1 [116]) := by rw [← hx2]; exact row_new x1 [116] (by simp [maxLen])
        have LT : Hid (ga < x1.heap.size) := K1.out.lt
        have GEB : Hid (w.heap.size ≤ x1.heap.size) := B1.out.size
        have K2 : Hid (Blk x2 ga 39 [.int .i64 D.kind, .int .i64 D.id, .slice S.cn.a S.cn.n S.cn.c, .slice S.sn.a S.sn.n S.sn.c, .int .i64 D.tick, .slice S.cookie.a S.cookie.n S.cookie.c, .slice S.proof.a S.proof.n S.proof.c, .int .i64 D.epoch, .int .i64 D.seq, .slice S.body.a S.body.n S.body.c, .slice S.tag.a S.tag.n S.tag.c]) := K1.out.later b2
        clear b2 hx2
        have f3 := (K1.out.alloc (.cells #[.int .u8 116] 5)).cell 3 rfl
        have f7 := (K1.out.alloc (.cells #[.int .u8 116] 5)).cell 7 rfl
        have f8 := (K1.out.alloc (.cells #[.int .u8 116] 5)).cell 8 rfl
        go_wp2_with fail
        rw [HW2.out]
        obtain ⟨gb, hgb⟩ : ∃ gb, x1.heap.size = gb := ⟨_, rfl⟩
        rw [hgb] at RN LT GEB
        rw [hgb]
        clear hgb f3 f7 f8 d0
        refine (specHeadOf role S.sn D.sn D.epoch D.seq x2 (HR.out.later B2.out).sn).mono ?_
        rintro e x3 ⟨g3, m3, c3, rfl, em3, k3, r3, b3⟩
        have R3 : Hid (Row x3 g3 c3 (headL role D.sn D.epoch D.seq)) := r3
        have EM3 : Hid (m3 = (headL role D.sn D.epoch D.seq).length) := em3
        have B3 : Hid (Below w.heap.size w x3) := B2.out.trans (b3.mono B2.out.size)
        have K3 : Hid (Blk x3 ga 39 [.int .i64 D.kind, .int .i64 D.id, .slice S.cn.a S.cn.n S.cn.c, .slice S.sn.a S.sn.n S.sn.c, .int .i64 D.tick, .slice S.cookie.a S.cookie.n S.cookie.c, .slice S.proof.a S.proof.n S.proof.c, .int .i64 D.epoch, .int .i64 D.seq, .slice S.body.a S.body.n S.body.c, .slice S.tag.a S.tag.n S.tag.c]) := K2.out.later b3
        have RN3 : Hid (Row x3 gb 1 [116]) := RN.out.later b3
        have YH : Hid (Bytes (headL role D.sn D.epoch D.seq)) := headL_bytes _ _ _ _ HR.out.sn.bytes
        clear em3 k3 r3 b3
        go_upto_region 4 with (at_builtin; refine wpList_app_at _ rfl (.tmp 21) (.tmp 29) rfl w.heap.size gb 1 1 [116] (headL role D.sn D.epoch D.seq) rfl rfl RN3.out GEB.out (some ⟨g3, 0, none⟩) m3 c3 rfl EM3.out R3.out.rd (by intro e; cases e) (by have := HHL.out; rw [List.length_singleton]; omega) ?_; intro g4 c4 x4 rr4 b4 ll4 gr4; have R4 : Hid (Row x4 g4 c4 ([116] ++ headL role D.sn D.epoch D.seq)) := rr4; have B4 : Hid (Below w.heap.size w x4) := B3.out.grown gr4 B3.out.size (fun k h => by cases h; exact GEB.out); have K4 : Hid (Blk x4 ga 39 [.int .i64 D.kind, .int .i64 D.id, .slice S.cn.a S.cn.n S.cn.c, .slice S.sn.a S.sn.n S.sn.c, .int .i64 D.tick, .slice S.cookie.a S.cookie.n S.cookie.c, .slice S.proof.a S.proof.n S.proof.c, .int .i64 D.epoch, .int .i64 D.seq, .slice S.body.a S.body.n S.body.c, .slice S.tag.a S.tag.n S.tag.c]) := K3.out.keep (gr4.block ga K3.out.lt (by simp only [ne_eq, Option.some.injEq]; have := LT.out; omega)); have G4 : Hid (w.heap.size ≤ g4) := b4; have NG4 : Hid (ga ≠ g4) := (by rcases ll4 with rfl | h; exact Nat.ne_of_lt LT.out; exact Nat.ne_of_lt (Nat.lt_of_lt_of_le K3.out.lt h)); clear rr4 b4 ll4 gr4)
        have EM4 : Hid (1 + m3 = ([116] ++ headL role D.sn D.epoch D.seq).length) := by show _ = _; rw [List.length_append, ← EM3.out]; rfl
        have LN4 : Hid (([116] ++ headL role D.sn D.epoch D.seq).length ≤ 30) := by show _ ≤ _; have := HHL.out; rw [List.length_append]; simp; omega
        obtain ⟨m4, hm4⟩ : ∃ m4, 1 + m3 = m4 := ⟨_, rfl⟩
        rw [hm4] at EM4
        rw [hm4]
        clear hm4
        have Kd4 : Hid (Blk x4.drew ga 39 [.int .i64 D.kind, .int .i64 D.id, .slice S.cn.a S.cn.n S.cn.c, .slice S.sn.a S.sn.n S.sn.c, .int .i64 D.tick, .slice S.cookie.a S.cookie.n S.cookie.c, .slice S.proof.a S.proof.n S.proof.c, .int .i64 D.epoch, .int .i64 D.seq, .slice S.body.a S.body.n S.body.c, .slice S.tag.a S.tag.n S.tag.c]) := K4.out
        have KdA : Blk (x4.alloc (.cells #[.int .u8 D.kind] 5)).drew ga 39 [.int .i64 D.kind, .int .i64 D.id, .slice S.cn.a S.cn.n S.cn.c, .slice S.sn.a S.sn.n S.sn.c, .int .i64 D.tick, .slice S.cookie.a S.cookie.n S.cookie.c, .slice S.proof.a S.proof.n S.proof.c, .int .i64 D.epoch, .int .i64 D.seq, .slice S.body.a S.body.n S.body.c, .slice S.tag.a S.tag.n S.tag.c] := K4.out.alloc _
        have ca0 := KdA.cell 0 rfl
        have ca1 := KdA.cell 9 rfl
        have KA4 : Hid (Blk (x4.alloc (.cells #[.int .u8 D.kind] 5)).drew ga 39 [.int .i64 D.kind, .int .i64 D.id, .slice S.cn.a S.cn.n S.cn.c, .slice S.sn.a S.sn.n S.sn.c, .int .i64 D.tick, .slice S.cookie.a S.cookie.n S.cookie.c, .slice S.proof.a S.proof.n S.proof.c, .int .i64 D.epoch, .int .i64 D.seq, .slice S.body.a S.body.n S.body.c, .slice S.tag.a S.tag.n S.tag.c]) := KdA
        have RA4 : Hid (Row (x4.alloc (.cells #[.int .u8 D.kind] 5)).drew g4 c4 ([116] ++ headL role D.sn D.epoch D.seq)) := row_alloc R4.out _
        have RO4 : Hid (Rd (x4.alloc (.cells #[.int .u8 D.kind] 5)).drew (some ⟨x4.heap.size, 0, none⟩) [D.kind]) := rd_one x4 _
        have BA4 : Hid (Below w.heap.size w (x4.alloc (.cells #[.int .u8 D.kind] 5)).drew) := (B4.out.alloc B4.out.size _).drew
        clear KdA
        have cc0 := Kd4.out.cell 0 rfl
        have cc1 := Kd4.out.cell 9 rfl
        go_region_held3 (fun w' => w'.cell? ⟨ga, 0, none⟩ = some (.int .i64 D.kind) ∧ w'.cell? ⟨ga, 9, none⟩ = some (.slice S.body.a S.body.n S.body.c)) (first | exact ⟨pp6_0, pp6_1⟩ | exact ⟨pp5_0, pp5_1⟩ | exact ⟨ca0, ca1⟩ | exact ⟨cc0, cc1⟩ | go_keep)
          (first
            | (refine bstep_any rfl (.tmp 31) (.tmp 35) rfl w.heap.size g4 m4 c4 ([116] ++ headL role D.sn D.epoch D.seq) [D.kind] (by rfl) EM4.out RA4.out G4.out (some ⟨x4.heap.size, 0, none⟩) 1 1 (by rfl) rfl RO4.out (by intro e; cases e) (by have := LN4.out; simp only [List.length_singleton]; omega) ?_; intro g5 c5 x5 r5 k5 l5 gr5; have K5 : Hid (Blk x5 ga 39 [.int .i64 D.kind, .int .i64 D.id, .slice S.cn.a S.cn.n S.cn.c, .slice S.sn.a S.sn.n S.sn.c, .int .i64 D.tick, .slice S.cookie.a S.cookie.n S.cookie.c, .slice S.proof.a S.proof.n S.proof.c, .int .i64 D.epoch, .int .i64 D.seq, .slice S.body.a S.body.n S.body.c, .slice S.tag.a S.tag.n S.tag.c]) := (KA4.out.keep (gr5.block ga KA4.out.lt (by simp only [ne_eq, Option.some.injEq]; exact NG4.out))); have R5 : Hid (Row x5 g5 c5 ([116] ++ headL role D.sn D.epoch D.seq ++ [D.kind])) := r5; have G5 : Hid (w.heap.size ≤ g5) := k5; have NG5 : Hid (ga ≠ g5) := (by rcases l5 with rfl | h; exact NG4.out; exact Nat.ne_of_lt (Nat.lt_of_lt_of_le KA4.out.lt h)); have B5 : Hid (Below w.heap.size w x5) := BA4.out.grown gr5 BA4.out.size (fun k h => by cases h; exact G4.out); have EM5 : Hid (m4 + 1 = ([116] ++ headL role D.sn D.epoch D.seq ++ [D.kind]).length) := (by show _ = _; rw [List.length_append, ← EM4.out]; rfl); have LN5 : Hid (([116] ++ headL role D.sn D.epoch D.seq ++ [D.kind]).length ≤ 40) := (by show _ ≤ _; have := LN4.out; rw [List.length_append]; have hk1 : [D.kind].length = 1 := rfl; omega); have pp5_0 := K5.out.cell 0 rfl; have pp5_1 := K5.out.cell 9 rfl; clear r5 k5 l5 gr5)
            | (refine bstep_any rfl (.tmp 36) (.tmp 38) rfl w.heap.size g5 (m4 + 1) c5 ([116] ++ headL role D.sn D.epoch D.seq ++ [D.kind]) D.body (by rfl) EM5.out R5.out G5.out S.body.a S.body.n S.body.c (by rfl) HR.out.body.len (HR.out.body.rd.later B5.out (Nat.le_refl _)) HR.out.body.nil (by have := LN5.out; have := HBL.out; omega) ?_; intro g6 c6 x6 r6 k6 l6 gr6; have K6 : Hid (Blk x6 ga 39 [.int .i64 D.kind, .int .i64 D.id, .slice S.cn.a S.cn.n S.cn.c, .slice S.sn.a S.sn.n S.sn.c, .int .i64 D.tick, .slice S.cookie.a S.cookie.n S.cookie.c, .slice S.proof.a S.proof.n S.proof.c, .int .i64 D.epoch, .int .i64 D.seq, .slice S.body.a S.body.n S.body.c, .slice S.tag.a S.tag.n S.tag.c]) := (K5.out.keep (gr6.block ga K5.out.lt (by simp only [ne_eq, Option.some.injEq]; exact NG5.out))); have R6 : Hid (Row x6 g6 c6 ([116] ++ headL role D.sn D.epoch D.seq ++ [D.kind] ++ D.body)) := r6; have G6 : Hid (w.heap.size ≤ g6) := k6; have B6 : Hid (Below w.heap.size w x6) := B5.out.grown gr6 B5.out.size (fun k h => by cases h; exact G5.out); have EM6 : Hid (m4 + 1 + S.body.n = ([116] ++ headL role D.sn D.epoch D.seq ++ [D.kind] ++ D.body).length) := (by show _ = _; rw [List.length_append, ← EM5.out, ← HR.out.body.len]); have pp6_0 := K6.out.cell 0 rfl; have pp6_1 := K6.out.cell 9 rfl; clear r6 k6 l6 gr6 R5))
        clear ca0 ca1 cc0 cc1 pp5_0 pp5_1 pp6_0 pp6_1
        have R7 : Hid (Row x6 g6 c6 H) := by rw [← HH.out, ← lay_tag HC.out]; exact R6.out
        have EM7 : Hid (m4 + 1 + S.body.n = H.length) := by rw [← HH.out, ← lay_tag HC.out]; exact EM6.out
        go_wp2
        go_ret
        exact ⟨g6, m4 + 1 + S.body.n, c6, by simp, EM7.out, G6.out, R7.out, B6.out⟩
end Go.Proofs.Ytmcflfpckpjphaa.SlS

namespace Go.Proofs.Ytmcflfpckpjphaa.Cuts
open Go.RowKit Go.Proofs.Ytmcflfpckpjphaa.Mem Go.Proofs.Ytmcflfpckpjphaa.App Go.Proofs.Ytmcflfpckpjphaa.Get

/-- What is cut out: the bytes, where they are there; else none. -/
def cutOf (l : List Int) (i k : Int) : List Int := if there l.length i k = true then piece l i.toNat k.toNat else []
set_option maxRecDepth 100000 in
theorem cutOf_length (l : List Int) (i k : Int) : (cutOf l i k).length ≤ l.length := by
  unfold cutOf piece; split
  · rw [List.length_take, List.length_drop]; omega
  · simp

set_option maxRecDepth 100000 in
theorem rd_piece {w : World} {b off : Nat} {l : List Int} (h : Rd w (some ⟨b, off, none⟩) l) (i k : Nat) (hk : i + k ≤ l.length) : Rd w (some ⟨b, off + i, none⟩) (piece l i k) := by
  intro j hj
  rw [piece_length l i k hk] at hj
  obtain ⟨b', off', e, h1, h2⟩ := h (i + j) (by omega)
  simp only [Option.some.injEq, Addr.mk.injEq, and_true] at e
  obtain ⟨rfl, rfl⟩ := e
  refine ⟨b, off + i, rfl, h1, ?_⟩
  have e : (piece l i k).getD j 0 = l.getD (i + j) 0 := by simp [piece, List.getD, hj]
  rw [e, Nat.add_assoc]
  exact h2

set_option maxRecDepth 100000 in
theorem there_flip (len : Nat) (i k : Int) (h : k < 0 ∨ i < 0 ∨ (len : Int) < k ∨ (len : Int) - k < i) : there len i k = false := there_no (by omega)

end Go.Proofs.Ytmcflfpckpjphaa.Cuts

namespace Go.Proofs.Ytmcflfpckpjphaa.WordsOf
open Go.RowKit Go.Proofs.Ytmcflfpckpjphaa.Mem Go.Proofs.Ytmcflfpckpjphaa.MemI Go.Proofs.Ytmcflfpckpjphaa.Blk Go.Proofs.Ytmcflfpckpjphaa.App Go.Proofs.Ytmcflfpckpjphaa.Get Go.Proofs.Ytmcflfpckpjphaa.ShaP Go.Proofs.Ytmcflfpckpjphaa.Word Go.Proofs.Ytmcflfpckpjphaa.Bits Go.Proofs.Ytmcflfpckpjphaa.Sched Go.Proofs.Ytmcflfpckpjphaa.Words

abbrev z8 : List Int := List.replicate 8 0
/-- k of eight cells filled, the rest 0. -/
def fill8 (l : List Int) (k : Nat) : List Int := l.take k ++ List.replicate (8 - k) 0
set_option maxRecDepth 100000 in
theorem fill8_set (l : List Int) (k : Nat) (hl : l.length = 8) (hk : k < 8) : (fill8 l k).set k (l.getD k 0) = fill8 l (k + 1) := by
  have := set_mid l k (by omega)
  rw [hl] at this; exact this
set_option maxRecDepth 100000 in
theorem fill8_length (l : List Int) (k : Nat) (hl : l.length = 8) (hk : k ≤ 8) : (fill8 l k).length = 8 := by simp [fill8, hl]; omega
set_option maxRecDepth 100000 in
theorem fill8_all (l : List Int) (hl : l.length = 8) : fill8 l 8 = l := by simp [fill8]; exact List.take_of_length_le (by omega)
def cut8 (h : List Int) : List Int := h.map fun z => z % 4294967296
set_option maxRecDepth 100000 in
theorem cut8_getD (h : List Int) (k : Nat) : (cut8 h).getD k 0 = (h.getD k 0) % 4294967296 := by
  simp only [cut8, List.getD, List.getElem?_map]
  cases h[k]? <;> simp
set_option maxRecDepth 100000 in
theorem cut8_eq (h : List Int) (hw : Wds h) : cut8 h = h := by
  unfold cut8
  conv => rhs; rw [← List.map_id h]
  apply List.map_congr_left
  intro z hz
  have := hw z hz
  unfold Wd at this
  simp; omega
set_option maxRecDepth 100000 in
theorem cut8_ne (h : List Int) (hl : h.length = 8) (hw : okw h = false) : cut8 h ≠ h := by
  intro e
  have : Wds h := by
    intro z hz
    rw [← e] at hz
    simp only [cut8, List.mem_map] at hz
    obtain ⟨y, _, rfl⟩ := hz
    exact wd_mod _
  rw [(okw_iff h).2 ⟨hl, this⟩] at hw
  cases hw

set_option maxRecDepth 100000 in
theorem cells3 : Try.prog.cellsOf 3 = 1 := by kernel_rfl
set_option maxRecDepth 100000 in
theorem items (d : Nat) (X Y : List Int) (hx : X.length = 8) (hy : Y.length = 8) (is : List Nat) (h : ∀ i ∈ is, i < 8) (w : World) :
    (Op.eqItems (d + 1) 3 1 (X.map (Value.int .i64)).toArray (Y.map (Value.int .i64)).toArray is).run Try.prog w = .ok (is.all fun i => X.getD i 0 == Y.getD i 0) w := by
  induction is with
  | nil => simp [Op.eqItems]
  | cons j r ih =>
    have hj := h j (by simp)
    have ih := ih (fun i hi => h i (by simp [hi]))
    simp only [Op.eqItems, Sem.run_bind]
    have hp : ∀ Z : List Int, Z.length = 8 → (part 3 (Z.map (Value.int .i64)).toArray (j * 1)).run Try.prog w = .ok (.int .i64 (Z.getD j 0)) w := by
      intro Z hz
      simp [part, hz, hj, List.getD]
    rw [hp X hx, Result.andThen_ok, hp Y hy, Result.andThen_ok, run_equalIn_int w d 3 .i64 .i64 _ _ Try.underlying3]
    rw [List.all_cons]
    cases (X.getD j 0 == Y.getD j 0) with
    | true => simpa using ih
    | false => simp
set_option maxRecDepth 100000 in
theorem results_row_tmp {P : Program} {fn : Func} {p q : Tmp} {ty : TypeId} (h : fn.results = #[.cell p ty, .tmp q]) (tmps : Array Value) (w : World) (g : Nat) (t : TypeId) (cs : Array Value) (fr : Nat × Nat) (d : TypeDesc)
    (hp : tmps.getD p undef = .pointer (some ⟨g, 0, none⟩)) (hg : w.heap[g]? = some (.cells cs t fr))
    (hu : P.underlying ty = some d) (hd : (match d with | .struct _ | .array _ _ => true | _ => false) = true) (hi : (P.info? ty).map (·.size) = some cs.size) (v : Value) (hq : tmps.getD q undef = v) :
    (results fn tmps).run P w = .ok (.tuple #[.agg cs, v]) w := by
  have hp' : tmps[p]?.getD undef = .pointer (some ⟨g, 0, none⟩) := by simpa using hp
  have hq' : tmps[q]?.getD undef = v := by simpa using hq
  simp [results, h, hp', hq', asAddr, run_loadVar_row w g t ty cs fr d hg hu hd hi]
set_option maxRecDepth 100000 in
theorem blk_drew {w : World} {g : Nat} {t : TypeId} {cs : List Value} (h : Blk w g t cs) : Blk w.drew g t cs := h
set_option maxRecDepth 100000 in
theorem set8 (a0 a1 a2 a3 a4 a5 a6 a7 : Value) : ((((((((z8.map (Value.int .i64)).set 0 a0).set 1 a1).set 2 a2).set 3 a3).set 4 a4).set 5 a5).set 6 a6).set 7 a7 = [a0, a1, a2, a3, a4, a5, a6, a7] := rfl
set_option maxRecDepth 100000 in
theorem ints8 (y0 y1 y2 y3 y4 y5 y6 y7 : Int) : [Value.int .i64 y0, .int .i64 y1, .int .i64 y2, .int .i64 y3, .int .i64 y4, .int .i64 y5, .int .i64 y6, .int .i64 y7] = [y0, y1, y2, y3, y4, y5, y6, y7].map (Value.int .i64) := rfl
end Go.Proofs.Ytmcflfpckpjphaa.WordsOf

namespace Go.Proofs.Ytmcflfpckpjphaa.Sched2
open Go.RowKit Go.Proofs.Ytmcflfpckpjphaa.Mem Go.Proofs.Ytmcflfpckpjphaa.MemI Go.Proofs.Ytmcflfpckpjphaa.Blk Go.Proofs.Ytmcflfpckpjphaa.App Go.Proofs.Ytmcflfpckpjphaa.Get Go.Proofs.Ytmcflfpckpjphaa.ShaP Go.Proofs.Ytmcflfpckpjphaa.Word Go.Proofs.Ytmcflfpckpjphaa.Bits Go.Proofs.Ytmcflfpckpjphaa.Sched

def schedI (b : List Int) : List Int := if b.length = 64 then sched b else []
set_option maxRecDepth 100000 in
theorem schedI_length (b : List Int) : (schedI b).length ≤ 64 := by
  unfold schedI; split
  · rw [sched_length]; omega
  · simp

end Go.Proofs.Ytmcflfpckpjphaa.Sched2

namespace Go.Proofs.Ytmcflfpckpjphaa.SchedS
open Go.RowKit Go.Proofs.Ytmcflfpckpjphaa.Mem Go.Proofs.Ytmcflfpckpjphaa.MemI Go.Proofs.Ytmcflfpckpjphaa.Blk Go.Proofs.Ytmcflfpckpjphaa.App Go.Proofs.Ytmcflfpckpjphaa.Get Go.Proofs.Ytmcflfpckpjphaa.ShaP Go.Proofs.Ytmcflfpckpjphaa.Word Go.Proofs.Ytmcflfpckpjphaa.Bits Go.Proofs.Ytmcflfpckpjphaa.Sched Go.Proofs.Ytmcflfpckpjphaa.Sched2

set_option maxRecDepth 100000 in
theorem istep_app {ops : Array Oper} {o : Oper} {a : Act} {w : World} {K : Act → World → Prop} {Q : Exit → Act → World → Prop} {E : Prop}
    (hgd : o.guard = none) (s x : Operand) (hop : o.op = .call { callee := .builtin .append, args := #[s, x], argTypes := #[24, 24] })
    (base g n cap : Nat) (l y : List Int) (hs : a.eval s = .slice (some ⟨g, 0, none⟩) n cap) (hn : n = l.length) (hrow : IRow w g cap l) (hbg : base ≤ g)
    (ad : Addr) (m c : Nat) (hx : a.eval x = .slice (some ad) m c) (hm : m = y.length) (hrd : IRd w (some ad) y) (hsum : l.length + y.length ≤ 100000000)
    (hK : ∀ g' cap' w', IRow w' g' cap' (l ++ y) → base ≤ g' → g' < w'.heap.size → w.grownBy w' (some g) → K (a.put o.dst (.slice (some ⟨g', 0, none⟩) (n + m) cap')) w') :
    if Region.wanted o (yielded ops a.tmps) = true then Oper.wp Try.prog o a w K Q else E := by
  have hw : Region.wanted o (yielded ops a.tmps) = true := by simp [Region.wanted, hgd]
  rw [if_pos hw]
  obtain ⟨i0, hi, hz0, hz1, hz2⟩ := info_parts info64
  subst hn hm
  have hlt := hrow.lt
  refine wp_append_own w s x 24 hop base 3 i0 (.int .i64 0) 1 8 Try.underlying24 hi hz0 hz1 hz2 rfl (by decide) _ _ _ hs (hrow.owns hbg) ad y.length c (y.map (Value.int .i64)) hx (by simp) (IRd.cells hrd) (ints_oneCell _ _) (by unfold maxLen; omega) (by omega) (by omega) ?_
  intro v' w' hown hgr hiff
  rcases hown.2 with ⟨hv, _⟩ | ⟨g', cap', cur, rfl, hb, hg', _⟩
  · exact absurd (hiff.1 hv).1 (by simp)
  · rw [← List.map_append] at hown
    obtain ⟨r1, r2, _, r4⟩ := IRow.of hown
    exact hK g' cap' w' r1 r2 r4 hgr

set_option maxRecDepth 100000 in
theorem ird_heap {w w' : World} {a : Option Addr} {l : List Int} (h : IRd w a l) (e : w'.heap = w.heap) : IRd w' a l := by
  intro i hi
  obtain ⟨b, off, rfl, h1, h2⟩ := h i hi
  exact ⟨b, off, rfl, by rw [e]; exact h1, by rw [World.cell?_of_block (w := w) (by rw [e])]; exact h2⟩

set_option maxRecDepth 100000 in
set_option maxHeartbeats 1600000 in
theorem specSchedule (a : Option Addr) (n cap : Nat) (b : List Int) (w : World) (hl : n = b.length) (hr : Rd w a b) (hb : Bytes b) (hn : n ≤ 4194304) :
    Calls Try.prog 128 #[.slice a n cap] w fun e w' =>
      ∃ g m c, e = .returned (.slice (some ⟨g, 0, none⟩) m c) ∧ m = (schedI b).length ∧ w.heap.size ≤ g ∧ IRow w' g c (schedI b) ∧ Below w.heap.size w w' := by
  have HA1 : Hid (Below w.heap.size w (w.alloc (.cells #[] 3))) := (Below.refl _ _).alloc (Nat.le_refl _) _
  have HN1 : Hid (IRow (w.alloc (.cells #[] 3)) w.heap.size 0 []) := irow_new w [] (by simp)
  by_cases h64 : n = 64
  · subst h64
    have HS : Hid (schedI b = more (first b 16) 48) := by show _ = _; unfold schedI; rw [if_pos hl.symm]; rfl
    have HR : Hid (Rd w a b) := hr
    have HB : Hid (Bytes b) := hb
    have HL : Hid (b.length = 64) := hl.symm
    clear hr hb hl
    go_enter Try.func128, Try.ntmps128
    go_wp2
    go_loopw [3, 4] (fun v i wr => ∃ k g c : Nat, k ≤ 16 ∧ i = .int .i64 k ∧ v = .slice (some ⟨g, 0, none⟩) k c ∧ w.heap.size ≤ g ∧ IRow wr g c (first b k) ∧ Below w.heap.size w wr)
      (fun _ i _ => 16 - (intOf i).toNat)
    case atStart => exact ⟨0, w.heap.size, 0, Nat.zero_le _, rfl, rfl, Nat.le_refl _, HN1.out, HA1.out⟩
    case round =>
      obtain ⟨k, g, c, hk, rfl, rfl, hg, hrow, hbe⟩ := hrel
      clear HN1 HA1
      have HRow : Hid (IRow wr g c (first b k)) := hrow
      have HBe : Hid (Below w.heap.size w wr) := hbe
      clear hrow hbe
      by_cases hlt : k < 16
      · have hG : gotN b (4 * (k : Int)) 4 = .tuple #[.int .i64 (val (piece b (4 * k) 4)), .int .i64 (4 * (k : Int) + 4), .bool true] := by
          unfold gotN
          rw [if_pos ⟨(isSize_iff 4).2 (by omega), there_yes (by rw [HL.out]; omega)⟩]
          rw [show (4 * (k : Int)).toNat = 4 * k by omega]; rfl
        have HF : Hid (first b (k + 1) = first b k ++ [val (piece b (4 * k) 4)]) := first_succ b k
        have HK : Hid (k = (first b k).length) := (first_length b k).symm
        generalize val (piece b (4 * k) 4) = v1 at *
        go_wp2_with fail
        refine (specGetN a 64 cap b (4 * (k : Int)) 4 wr HL.out.symm (HR.out.later HBe.out (Nat.le_refl _)) HB.out (by omega)).mono ?_
        rintro e w1 ⟨rfl, rfl⟩
        go_wp2_with (at_builtin; refine iwpList_app _ rfl (.tmp 30) (.tmp 32) rfl w.heap.size g k c (first b k) [v1] rfl HK.out (irow_alloc HRow.out _) hg (some ⟨wr.heap.size, 0, none⟩) 1 1 rfl rfl (ird_one _ _) (by intro h; cases h) (by rw [← HK.out]; simp; omega) ?_; intro g2 c2 w2 r2 b2 l2 gr2; have R2 : Hid (IRow w2 g2 c2 (first b k ++ [v1])) := r2; have B2 : Hid (Below w.heap.size w w2) := (HBe.out.alloc HBe.out.size _).grown gr2 (Nat.le_trans HBe.out.size (by simp)) (fun k h => by cases h; exact hg); clear r2 gr2 l2)
        go_roundw
        case rel => exact ⟨k + 1, g2, c2, by omega, by go_num, rfl, b2, by rw [HF.out]; exact R2.out, B2.out⟩
        case measure => simp [intOf]; omega
      · obtain rfl : k = 16 := by omega
        go_wp2
        go_loopw [3, 8] (fun v i wr => ∃ n g c : Nat, n ≤ 48 ∧ i = .int .i64 ((n : Int) + 16) ∧ v = .slice (some ⟨g, 0, none⟩) (n + 16) c ∧ w.heap.size ≤ g ∧ IRow wr g c (more (first b 16) n) ∧ Below w.heap.size w wr)
          (fun _ i _ => 64 - (intOf i).toNat)
        case atStart => exact ⟨0, g, c, Nat.zero_le _, rfl, rfl, hg, HRow.out, HBe.out⟩
        case round =>
          obtain ⟨n, g, c, hn, rfl, rfl, hg, hrow, hbe⟩ := hrel
          clear HRow HBe
          have HRow : Hid (IRow wr g c (more (first b 16) n)) := hrow
          have HBe : Hid (Below w.heap.size w wr) := hbe
          have HK : Hid (n + 16 = (more (first b 16) n).length) := by show _ = _; rw [more_length, first_length]; omega
          clear hrow hbe
          by_cases hlt : n < 48
          · have c1 := HRow.out.cell (n + 1) (by rw [← HK.out]; omega)
            have c2 := HRow.out.cell (n + 14) (by rw [← HK.out]; omega)
            have c3 := HRow.out.cell (n + 9) (by rw [← HK.out]; omega)
            have c4 := HRow.out.cell n (by rw [← HK.out]; omega)
            have hws : Wds (more (first b 16) n) := more_wds _ _ (first_wds b 16 HB.out)
            have w1 := hws.at (n + 1)
            have w2 := hws.at (n + 14)
            have w3 := hws.at (n + 9)
            have w4 := hws.at n
            obtain ⟨z, hz⟩ : ∃ z, nextW (more (first b 16) n) (16 + n) = z := ⟨_, rfl⟩
            have HN : Hid (((more (first b 16) n).getD (n + 9) 0 + (more (first b 16) n).getD n 0 + s0 ((more (first b 16) n).getD (n + 1) 0) + s1 ((more (first b 16) n).getD (n + 14) 0)) % 4294967296 = z) := by
              show _ = _
              rw [← hz]; unfold nextW
              rw [show 16 + n - 7 = n + 9 by omega, show 16 + n - 16 = n by omega, show 16 + n - 15 = n + 1 by omega, show 16 + n - 2 = n + 14 by omega]
            have HF : Hid (more (first b 16) (n + 1) = more (first b 16) n ++ [z]) := by rw [← hz]; exact (rfl : more (first b 16) (n + 1) = _)
            clear hz hws
            obtain ⟨L, hL⟩ : ∃ L, more (first b 16) n = L := ⟨_, rfl⟩
            rw [hL] at HRow HK HF HN c1 c2 c3 c4 w1 w2 w3 w4
            clear hL
            generalize L.getD (n + 1) 0 = x1 at *
            generalize L.getD (n + 14) 0 = x2 at *
            generalize L.getD (n + 9) 0 = x3 at *
            generalize L.getD n 0 = x4 at *
            obtain ⟨w1a, w1b⟩ := w1
            obtain ⟨w2a, w2b⟩ := w2
            obtain ⟨w3a, w3b⟩ := w3
            obtain ⟨w4a, w4b⟩ := w4
            have hs0 : Wd (bits .xor .i64 (bits .xor .i64 (rot x1 7) (rot x1 18)) (x1 / 8)) := wd_s0 (x := x1) ⟨w1a, w1b⟩
            have hs1 : Wd (bits .xor .i64 (bits .xor .i64 (rot x2 17) (rot x2 19)) (x2 / 1024)) := wd_s1 (x := x2) ⟨w2a, w2b⟩
            have HN : Hid ((x3 + x4 + bits .xor .i64 (bits .xor .i64 (rot x1 7) (rot x1 18)) (x1 / 8) + bits .xor .i64 (bits .xor .i64 (rot x2 17) (rot x2 19)) (x2 / 1024)) % 4294967296 = z) := HN.out
            have i1 : (0 : Int) ≤ (n : Int) + 16 - 15 := by omega
            have i2 : (n : Int) + 16 - 15 < ((n + 16 : Nat) : Int) := by omega
            have i3 : (0 : Int) ≤ (n : Int) + 16 - 2 := by omega
            have i4 : (n : Int) + 16 - 2 < ((n + 16 : Nat) : Int) := by omega
            go_wp2_with fail
            refine (specRot _ _ _).mono ?_
            rintro e _ ⟨rfl, q1, rfl⟩
            go_wp2_with fail
            refine (specRotD _ _ _ _).mono ?_
            rintro e _ ⟨rfl, q2, rfl⟩
            go_wp2_with fail
            refine (specRotD _ _ _ _).mono ?_
            rintro e _ ⟨rfl, q3, rfl⟩
            go_wp2_with fail
            refine (specRotD _ _ _ _).mono ?_
            rintro e _ ⟨rfl, q4, rfl⟩
            go_wp2_with fail
            generalize bits .xor .i64 (bits .xor .i64 (rot x1 7) (rot x1 18)) (x1 / 8) = f0 at *
            generalize bits .xor .i64 (bits .xor .i64 (rot x2 17) (rot x2 19)) (x2 / 1024) = f1 at *
            obtain ⟨f0a, f0b⟩ := hs0
            obtain ⟨f1a, f1b⟩ := hs1
            obtain ⟨p, hp⟩ : ∃ p : Nat, n + 9 = p := ⟨_, rfl⟩
            rw [hp] at c3
            have hp64 : (p : Int) < (n : Int) + 16 := by omega
            have hn64 : (n : Int) < (n : Int) + 16 := by omega
            have j1 : IntKind.i64.wrap ((n : Int) + 16 - 7) = (p : Int) := by rw [IntKind.wrap_i64]; omega
            have j2 : IntKind.i64.wrap (n : Int) = (n : Int) := by rw [IntKind.wrap_i64]; omega
            have j3 : IntKind.i64.wrap (x3 + x4) = x3 + x4 := by rw [IntKind.wrap_i64]; omega
            have j4 : IntKind.i64.wrap (x3 + x4 + f0) = x3 + x4 + f0 := by rw [IntKind.wrap_i64]; omega
            have j5 : IntKind.i64.wrap (x3 + x4 + f0 + f1) = x3 + x4 + f0 + f1 := by rw [IntKind.wrap_i64]; omega
            have j6 : bits .and .i64 (x3 + x4 + f0 + f1) 4294967295 = z := by rw [mask32]; exact HN.out
            clear hp
            go_region_law (refine istep_app rfl (.tmp 64) (.tmp 81) rfl w.heap.size g (n + 16) c L [z] (by simp [Act.eval]) HK.out (by exact (irow_alloc HRow.out (.cells #[.int .i64 z] 3)).keep rfl) hg ⟨wr.heap.size, 0, none⟩ 1 1 (by simp [Act.eval]) rfl (by exact ird_heap (ird_one wr _) rfl) (by rw [← HK.out]; simp; omega) ?_; intro g2 c2 w2 r2 b2 l2 gr2; have R2 : Hid (IRow w2 g2 c2 (L ++ [z])) := r2; have B2 : Hid (Below w.heap.size w w2) := Below.grown (below_drewN ((HBe.out.alloc HBe.out.size (.cells #[.int .i64 z] 3))) (q4 + 1)) gr2 (Nat.le_trans HBe.out.size (by simp)) (fun k h => by cases h; exact hg); clear r2 gr2 l2)
            all_goals
              go_wp2
              refine ⟨?_, ?measure⟩
              (repeat apply Exists.intro)
              refine ⟨?rel, rfl⟩
              case rel => exact ⟨n + 1, g2, c2, by omega, by go_num, by rw [show n + 1 + 16 = n + 16 + 1 by omega], b2, by rw [HF.out]; exact R2.out, B2.out⟩
              case measure => simp [intOf]; omega
          · obtain rfl : n = 48 := by omega
            have HM : Hid ((more (first b 16) 48).length = 64) := by show _ = _; rw [more_length, first_length]
            go_wp2
            go_ret
            exact ⟨g, 64, c, rfl, by rw [HS.out, HM.out], hg, by rw [HS.out]; exact HRow.out, HBe.out⟩
  · have HS : Hid (schedI b = []) := by show _ = _; unfold schedI; rw [if_neg (by omega)]
    have hne : ((n : Int) != 64) = true := by simp; omega
    clear h64 hl hr hb
    go_enter Try.func128, Try.ntmps128
    go_wp2
    go_ret
    exact ⟨w.heap.size, 0, 0, by simp, by rw [HS.out]; rfl, Nat.le_refl _, by rw [HS.out]; exact HN1.out, HA1.out⟩
end Go.Proofs.Ytmcflfpckpjphaa.SchedS

namespace Go.Proofs.Ytmcflfpckpjphaa.Comp
open Go.RowKit Go.Proofs.Ytmcflfpckpjphaa.Mem Go.Proofs.Ytmcflfpckpjphaa.MemI Go.Proofs.Ytmcflfpckpjphaa.Blk Go.Proofs.Ytmcflfpckpjphaa.App Go.Proofs.Ytmcflfpckpjphaa.Get Go.Proofs.Ytmcflfpckpjphaa.ShaP Go.Proofs.Ytmcflfpckpjphaa.Word Go.Proofs.Ytmcflfpckpjphaa.Bits Go.Proofs.Ytmcflfpckpjphaa.Sched

set_option maxRecDepth 100000 in
/-- One round, as impl reckons it. -/
theorem t_impl (k w : Int) (s : St) (h : s.ok) :
    s.h + bits .xor .i64 (bits .xor .i64 (rot s.e 6) (rot s.e 11)) (rot s.e 25) + bits .xor .i64 (bits .and .i64 s.e s.f) (bits .andNot .i64 s.g s.e) + k + w = tOf k w s := by
  rw [andNot_word s.g s.e h.2.2.2.2.2.2.1 h.2.2.2.2.1]; rfl

set_option maxRecDepth 100000 in
theorem add8 (h l : List Int) (k : Nat) (hk : k < 8) (hh : h.length = 8) :
    (((List.range k).map (plus h l) ++ h.drop k).set k ((h.getD k 0 + l.getD k 0) % 4294967296)) = (List.range (k + 1)).map (plus h l) ++ h.drop (k + 1) := by
  rw [List.set_append, if_neg (by simp), List.length_map, List.length_range, Nat.sub_self, List.drop_eq_getElem_cons (by omega), List.set_cons_zero, List.range_succ, List.map_append]
  simp [plus]
set_option maxRecDepth 100000 in
theorem part8 (h l : List Int) (k : Nat) : ((List.range k).map (plus h l) ++ h.drop k).getD k 0 = h.getD k 0 := by
  simp [List.getD, List.getElem?_append]

end Go.Proofs.Ytmcflfpckpjphaa.Comp
