/-
  What impl's FrameOk and Sealed answer.
  What impl's PutFrame and SizeOf answer.
  Heads, and what a tag is of, as plain functions.
  What impl's and spec's Cut answer at every slice of at most 4,194,304 bytes that is not nil and every two ints: the same bytes, in new memory, and the same word on whether they were there.
  What impl's wordsOf answers at every slice of ints of at most 4,194,304: whether they are eight words, and then those.
  What impl's and spec's Schedule answer at every slice of bytes of at most 4,194,304: the same words, in new memory.
  What spec's Schedule answers at every slice of bytes of at most 4,194,304: the words of impl's, in new memory.
-/
import Derived.Test.YtmcflfpckpjphaaGreatDoorVdFrO
import Derived.Test.YtmcflfpckpjphaaGreatDoorVdFrQ2
import Derived.Test.YtmcflfpckpjphaaGreatDoorVdBas4
import Derived.Test.YtmcflfpckpjphaaGreatDoorVdBas3
import Derived.ChangeKeysEq
import Derived.Deep.RegionLaw
set_option linter.unusedVariables false
set_option maxRecDepth 100000
namespace Go.Proofs.YtmcflfpckpjphaaGreatDoor.FrO2
open Go.RowKit Mem Blk Words Zone Res FrZ FrP FrB FrT FrW FrW2 FrW3 FrE FrO

theorem ok1 (di : Int) (lcn lsn : List Int) (dt : Int) (lco lpr : List Int) (de dq : Int) (lbo lta : List Int) :
  ((isIn di 1 9 && ((lcn.length : Int) == 12)) && sameD ⟨1, di, lcn, [], 0, [], [], 0, 0, [], []⟩ ⟨1, di, lcn, lsn, dt, lco, lpr, de, dq, lbo, lta⟩) = frameOk ⟨1, di, lcn, lsn, dt, lco, lpr, de, dq, lbo, lta⟩ := by
 rw [Bool.eq_iff_iff, ok_iff]
 simp only [sameD, Bool.and_eq_true, beq_iff_eq, decide_eq_true_eq, isIn, nil_iff, true_and]
 constructor <;> intro h <;> omega

theorem ok2 (di : Int) (lcn lsn : List Int) (dt : Int) (lco lpr : List Int) (de dq : Int) (lbo lta : List Int) :
  ((((lcn.length : Int) == 12) && (((lsn.length : Int) == 12) && (isIn dt 0 1000000 && ((lco.length : Int) == 16)))) && sameD ⟨2, 0, lcn, lsn, dt, lco, [], 0, 0, [], []⟩ ⟨2, di, lcn, lsn, dt, lco, lpr, de, dq, lbo, lta⟩) = frameOk ⟨2, di, lcn, lsn, dt, lco, lpr, de, dq, lbo, lta⟩ := by
 rw [Bool.eq_iff_iff, ok_iff]
 simp only [sameD, Bool.and_eq_true, beq_iff_eq, decide_eq_true_eq, isIn, nil_iff, true_and]
 constructor <;> intro h <;> omega

theorem ok3 (di : Int) (lcn lsn : List Int) (dt : Int) (lco lpr : List Int) (de dq : Int) (lbo lta : List Int) :
  ((isIn di 1 9 && ((((lcn.length : Int) == 12) && (((lsn.length : Int) == 12) && (isIn dt 0 1000000 && ((lco.length : Int) == 16)))) && ((lpr.length : Int) == 16))) && sameD ⟨3, di, lcn, lsn, dt, lco, lpr, 0, 0, [], []⟩ ⟨3, di, lcn, lsn, dt, lco, lpr, de, dq, lbo, lta⟩) = frameOk ⟨3, di, lcn, lsn, dt, lco, lpr, de, dq, lbo, lta⟩ := by
 rw [Bool.eq_iff_iff, ok_iff]
 simp only [sameD, Bool.and_eq_true, beq_iff_eq, decide_eq_true_eq, isIn, nil_iff, true_and]
 constructor <;> intro h <;> omega

theorem ok4 (di : Int) (lcn lsn : List Int) (dt : Int) (lco lpr : List Int) (de dq : Int) (lbo lta : List Int) :
  (((((lsn.length : Int) == 12) && (isIn de 0 4294967295 && (isIn dq 0 281474976710655 && ((lta.length : Int) == 16)))) && (decide ((lbo.length : Int) ≤ 40))) && sameD ⟨4, 0, [], lsn, 0, [], [], de, dq, lbo, lta⟩ ⟨4, di, lcn, lsn, dt, lco, lpr, de, dq, lbo, lta⟩) = frameOk ⟨4, di, lcn, lsn, dt, lco, lpr, de, dq, lbo, lta⟩ := by
 rw [Bool.eq_iff_iff, ok_iff]
 have hb : bodyOk 4 (lbo.length : Int) = true ↔ (lbo.length : Int) ≤ 40 := by
   unfold bodyOk; simp; try omega
 simp only [sameD, Bool.and_eq_true, beq_iff_eq, decide_eq_true_eq, isIn, nil_iff, true_and, and_true, hb]
 constructor <;> intro h <;> omega

theorem ok5 (di : Int) (lcn lsn : List Int) (dt : Int) (lco lpr : List Int) (de dq : Int) (lbo lta : List Int) :
  (((((lsn.length : Int) == 12) && (isIn de 0 4294967295 && (isIn dq 0 281474976710655 && ((lta.length : Int) == 16)))) && ((lbo.length : Int) == 12)) && sameD ⟨5, 0, [], lsn, 0, [], [], de, dq, lbo, lta⟩ ⟨5, di, lcn, lsn, dt, lco, lpr, de, dq, lbo, lta⟩) = frameOk ⟨5, di, lcn, lsn, dt, lco, lpr, de, dq, lbo, lta⟩ := by
 rw [Bool.eq_iff_iff, ok_iff]
 have hb : bodyOk 5 (lbo.length : Int) = true ↔ lbo.length = 12 := by
   unfold bodyOk; simp; try omega
 simp only [sameD, Bool.and_eq_true, beq_iff_eq, decide_eq_true_eq, isIn, nil_iff, true_and, and_true, hb]
 constructor <;> intro h <;> omega

theorem ok6 (di : Int) (lcn lsn : List Int) (dt : Int) (lco lpr : List Int) (de dq : Int) (lbo lta : List Int) :
  (((((lsn.length : Int) == 12) && (isIn de 0 4294967295 && (isIn dq 0 281474976710655 && ((lta.length : Int) == 16)))) && ((lbo.length : Int) == 12)) && sameD ⟨6, 0, [], lsn, 0, [], [], de, dq, lbo, lta⟩ ⟨6, di, lcn, lsn, dt, lco, lpr, de, dq, lbo, lta⟩) = frameOk ⟨6, di, lcn, lsn, dt, lco, lpr, de, dq, lbo, lta⟩ := by
 rw [Bool.eq_iff_iff, ok_iff]
 have hb : bodyOk 6 (lbo.length : Int) = true ↔ lbo.length = 12 := by
   unfold bodyOk; simp; try omega
 simp only [sameD, Bool.and_eq_true, beq_iff_eq, decide_eq_true_eq, isIn, nil_iff, true_and, and_true, hb]
 constructor <;> intro h <;> omega

theorem ok7 (di : Int) (lcn lsn : List Int) (dt : Int) (lco lpr : List Int) (de dq : Int) (lbo lta : List Int) :
  (((((lsn.length : Int) == 12) && (isIn de 0 4294967295 && (isIn dq 0 281474976710655 && ((lta.length : Int) == 16)))) && ((lbo.length : Int) == 4)) && sameD ⟨7, 0, [], lsn, 0, [], [], de, dq, lbo, lta⟩ ⟨7, di, lcn, lsn, dt, lco, lpr, de, dq, lbo, lta⟩) = frameOk ⟨7, di, lcn, lsn, dt, lco, lpr, de, dq, lbo, lta⟩ := by
 rw [Bool.eq_iff_iff, ok_iff]
 have hb : bodyOk 7 (lbo.length : Int) = true ↔ lbo.length = 4 := by
   unfold bodyOk; simp; try omega
 simp only [sameD, Bool.and_eq_true, beq_iff_eq, decide_eq_true_eq, isIn, nil_iff, true_and, and_true, hb]
 constructor <;> intro h <;> omega

theorem ok8 (di : Int) (lcn lsn : List Int) (dt : Int) (lco lpr : List Int) (de dq : Int) (lbo lta : List Int) :
  (((((lsn.length : Int) == 12) && (isIn de 0 4294967295 && (isIn dq 0 281474976710655 && ((lta.length : Int) == 16)))) && ((lbo.length : Int) == 4)) && sameD ⟨8, 0, [], lsn, 0, [], [], de, dq, lbo, lta⟩ ⟨8, di, lcn, lsn, dt, lco, lpr, de, dq, lbo, lta⟩) = frameOk ⟨8, di, lcn, lsn, dt, lco, lpr, de, dq, lbo, lta⟩ := by
 rw [Bool.eq_iff_iff, ok_iff]
 have hb : bodyOk 8 (lbo.length : Int) = true ↔ lbo.length = 4 := by
   unfold bodyOk; simp; try omega
 simp only [sameD, Bool.and_eq_true, beq_iff_eq, decide_eq_true_eq, isIn, nil_iff, true_and, and_true, hb]
 constructor <;> intro h <;> omega

set_option maxHeartbeats 1600000 in
theorem implOk0 (S : FrS) (dk di dt de dq : Int) (w : World) (h1 : (dk == 1) = false) (h2 : (dk == 2) = false) (h3 : (dk == 3) = false) (h4 : (dk == 4) = false) (h5 : (dk == 5) = false) (h6 : (dk == 6) = false) (h7 : (dk == 7) = false) (h8 : (dk == 8) = false) :
  Calls Tryz.prog 18 #[.agg #[.int .i64 dk, .int .i64 di, .slice S.cn.a S.cn.n S.cn.c, .slice S.sn.a S.sn.n S.sn.c, .int .i64 dt, .slice S.cookie.a S.cookie.n S.cookie.c, .slice S.proof.a S.proof.n S.proof.c, .int .i64 de, .int .i64 dq, .slice S.body.a S.body.n S.body.c, .slice S.tag.a S.tag.n S.tag.c]] w fun e w' => e = .returned (.bool false) ∧ Below w.heap.size w w' := by
 obtain ⟨x0, hx0⟩ : ∃ x0, w.alloc (.cells #[.int .i64 dk, .int .i64 di, .slice S.cn.a S.cn.n S.cn.c, .slice S.sn.a S.sn.n S.sn.c, .int .i64 dt, .slice S.cookie.a S.cookie.n S.cookie.c, .slice S.proof.a S.proof.n S.proof.c, .int .i64 de, .int .i64 dq, .slice S.body.a S.body.n S.body.c, .slice S.tag.a S.tag.n S.tag.c] 27) = x0 := ⟨_, rfl⟩
 have HW0 := hid (hx0)
 have B0 : Hid (Below w.heap.size w x0) := by rw [← hx0]; exact (Below.refl _ _).alloc (Nat.le_refl _) _
 clear hx0
 have q0 := ne0
 go_enter Tryz.func18, Tryz.ntmps18
 go_wp2_with fail
 rw [HW0.out]
 refine (wordOf0 dk di S.cn S.sn dt S.cookie S.proof de dq S.body S.tag h1 h2 h3 h4 h5 h6 h7 h8 x0).mono ?_
 rintro e x1 ⟨rfl, b1⟩
 have B1 := hid (B0.out.trans (b1.mono B0.out.size))
 clear b1
 go_upto_region 2 with fail
 go_quiet (fail)
 go_wp2
 go_ret
 exact ⟨by simp, below_drewN B1.out _⟩

theorem implFrameOk (S : FrS) (D : FrD) (w : World) (h : FrRd w S D) :
  Calls Tryz.prog 18 #[frV D S] w fun e w' => e = .returned (.bool (frameOk D)) ∧ Below w.heap.size w w' := by
 obtain ⟨dk, di, lcn, lsn, dt, lco, lpr, de, dq, lbo, lta⟩ := D
 have hcn : S.cn.n = lcn.length := h.cn.len
 have hsn : S.sn.n = lsn.length := h.sn.len
 have hco : S.cookie.n = lco.length := h.cookie.len
 have hpr : S.proof.n = lpr.length := h.proof.len
 have hbo : S.body.n = lbo.length := h.body.len
 have hta : S.tag.n = lta.length := h.tag.len
 show Calls Tryz.prog 18 #[.agg #[.int .i64 dk, .int .i64 di, .slice S.cn.a S.cn.n S.cn.c, .slice S.sn.a S.sn.n S.sn.c, .int .i64 dt, .slice S.cookie.a S.cookie.n S.cookie.c, .slice S.proof.a S.proof.n S.proof.c, .int .i64 de, .int .i64 dq, .slice S.body.a S.body.n S.body.c, .slice S.tag.a S.tag.n S.tag.c]] w _
 by_cases k1 : dk = 1
 ·
  subst k1
  have := implOk1 S di lcn lsn dt lco lpr de dq lbo lta w h
  rw [hcn, ok1] at this
  rw [hcn]
  exact this
 by_cases k2 : dk = 2
 ·
  subst k2
  have := implOk2 S di lcn lsn dt lco lpr de dq lbo lta w h
  rw [hcn, hsn, hco, ok2] at this
  rw [hcn, hsn, hco]
  exact this
 by_cases k3 : dk = 3
 ·
  subst k3
  have := implOk3 S di lcn lsn dt lco lpr de dq lbo lta w h
  rw [hcn, hsn, hco, hpr, ok3] at this
  rw [hcn, hsn, hco, hpr]
  exact this
 by_cases k4 : dk = 4
 ·
  subst k4
  have := implOk4 S di lcn lsn dt lco lpr de dq lbo lta w h
  rw [hsn, hbo, hta, ok4] at this
  rw [hsn, hbo, hta]
  exact this
 by_cases k5 : dk = 5
 ·
  subst k5
  have := implOk5 S di lcn lsn dt lco lpr de dq lbo lta w h
  rw [hsn, hbo, hta, ok5] at this
  rw [hsn, hbo, hta]
  exact this
 by_cases k6 : dk = 6
 ·
  subst k6
  have := implOk6 S di lcn lsn dt lco lpr de dq lbo lta w h
  rw [hsn, hbo, hta, ok6] at this
  rw [hsn, hbo, hta]
  exact this
 by_cases k7 : dk = 7
 ·
  subst k7
  have := implOk7 S di lcn lsn dt lco lpr de dq lbo lta w h
  rw [hsn, hbo, hta, ok7] at this
  rw [hsn, hbo, hta]
  exact this
 by_cases k8 : dk = 8
 ·
  subst k8
  have := implOk8 S di lcn lsn dt lco lpr de dq lbo lta w h
  rw [hsn, hbo, hta, ok8] at this
  rw [hsn, hbo, hta]
  exact this
 have hn : frameOk ⟨dk, di, lcn, lsn, dt, lco, lpr, de, dq, lbo, lta⟩ = false := by
  cases hc : frameOk ⟨dk, di, lcn, lsn, dt, lco, lpr, de, dq, lbo, lta⟩ with
  | false => rfl
  | true => have := ok_kind _ hc; simp only at this; omega
 rw [hn]
 exact implOk0 S dk di dt de dq w (by simpa using k1) (by simpa using k2) (by simpa using k3) (by simpa using k4) (by simpa using k5) (by simpa using k6) (by simpa using k7) (by simpa using k8)

end Go.Proofs.YtmcflfpckpjphaaGreatDoor.FrO2

namespace Go.Proofs.YtmcflfpckpjphaaGreatDoor.FrQ3
open Go.RowKit Mem App Blk Words Zone Res FrZ FrP FrB FrT FrW FrW2 FrW3 FrQ FrQ2 FrO2

theorem putN_one (x : Int) (h0 : 0 ≤ x) (h1 : x ≤ 255) : putN x 1 = [x] := by
 show num x 1 = [x]
 show [x / 2 ^ (8 * 0) % 256] = [x]
 congr 1
 simp
 omega
theorem short_ok (D : FrD) (h : frameOk D = true) : FrShort D 100 := by
 obtain ⟨h1, h2, h3, h4, h5, h6⟩ := ok_lens D h
 exact ⟨by omega, by omega, by omega, by omega, by omega, by omega⟩

end Go.Proofs.YtmcflfpckpjphaaGreatDoor.FrQ3

namespace Go.Proofs.YtmcflfpckpjphaaGreatDoor.SlP
open Go.RowKit Mem App Words FrZ FrP FrG Get

def headOk (role : Int) (n : Int) (epoch seq : Int) : Bool := isIn role 0 1 && ((n == 12) && (isIn epoch 0 4294967295 && isIn seq 0 281474976710655))
theorem headOk_iff (role n epoch seq : Int) : headOk role n epoch seq = true ↔ (0 ≤ role ∧ role ≤ 1) ∧ n = 12 ∧ (0 ≤ epoch ∧ epoch ≤ 4294967295) ∧ (0 ≤ seq ∧ seq ≤ 281474976710655) := by
 unfold headOk isIn; simp [and_assoc]
def headL (role : Int) (sn : List Int) (epoch seq : Int) : List Int := if headOk role sn.length epoch seq = true then [role] ++ sn ++ num epoch 4 ++ num seq 6 else []
theorem headL_no (role : Int) (sn : List Int) (epoch seq : Int) (h : headOk role sn.length epoch seq = false) : headL role sn epoch seq = [] := by unfold headL; rw [if_neg (by rw [h]; simp)]
theorem headL_yes (role : Int) (sn : List Int) (epoch seq : Int) (h : headOk role sn.length epoch seq = true) : headL role sn epoch seq = [role] ++ sn ++ num epoch 4 ++ num seq 6 := by unfold headL; rw [if_pos h]
theorem headL_len (role : Int) (sn : List Int) (epoch seq : Int) (h : headOk role sn.length epoch seq = true) : (headL role sn epoch seq).length = 23 := by
 rw [headL_yes role sn epoch seq h]
 have := ((headOk_iff _ _ _ _).1 h).2.1
 simp [num_length]; omega
theorem headL_le (role : Int) (sn : List Int) (epoch seq : Int) : (headL role sn epoch seq).length ≤ 23 := by
 by_cases h : headOk role sn.length epoch seq = true
 ·
  rw [headL_len role sn epoch seq h]; exact Nat.le_refl _
 ·
  rw [headL_no role sn epoch seq (by simpa using h)]; simp
theorem bytes_app {a b : List Int} (ha : Bytes a) (hb : Bytes b) : Bytes (a ++ b) := fun z hz => by
 rcases List.mem_append.1 hz with h | h
 ·
  exact ha z h
 ·
  exact hb z h
theorem bytes_one {z : Int} (h0 : 0 ≤ z) (h1 : z ≤ 255) : Bytes [z] := fun y hy => by simp at hy; omega
theorem headL_bytes (role : Int) (sn : List Int) (epoch seq : Int) (hb : Bytes sn) : Bytes (headL role sn epoch seq) := by
 by_cases h : headOk role sn.length epoch seq = true
 ·
  rw [headL_yes role sn epoch seq h]
  have h1 := ((headOk_iff _ _ _ _).1 h).1
  exact bytes_app (bytes_app (bytes_app (bytes_one h1.1 (by omega)) hb) (num_bytes _ _)) (num_bytes _ _)
 ·
  rw [headL_no role sn epoch seq (by simpa using h)]; exact fun z hz => by cases hz
theorem headL_nil (role : Int) (sn : List Int) (epoch seq : Int) : ((headL role sn epoch seq).length = 0) ↔ headOk role sn.length epoch seq = false := by
 constructor
 ·
  intro h
  by_cases k : headOk role sn.length epoch seq = true
  ·
   rw [headL_len _ _ _ _ k] at h; cases h
  ·
   simpa using k
 ·
  intro h; rw [headL_no _ _ _ _ h]; rfl

def canTag (role : Int) (D : FrD) : Bool := isIn role 0 1 && (isIn D.kind 4 8 && frameOk D)
def tagIn (role : Int) (D : FrD) : List Int := if canTag role D = true then [116] ++ headL role D.sn D.epoch D.seq ++ [D.kind] ++ D.body else []
theorem tagIn_no (role : Int) (D : FrD) (h : canTag role D = false) : tagIn role D = [] := by unfold tagIn; rw [if_neg (by rw [h]; simp)]
theorem tagIn_yes (role : Int) (D : FrD) (h : canTag role D = true) : tagIn role D = [116] ++ headL role D.sn D.epoch D.seq ++ [D.kind] ++ D.body := by unfold tagIn; rw [if_pos h]
theorem canTag_parts {role : Int} {D : FrD} (h : canTag role D = true) : (0 ≤ role ∧ role ≤ 1) ∧ (4 ≤ D.kind ∧ D.kind ≤ 8) ∧ frameOk D = true := by
 unfold canTag isIn at h; simp at h; exact ⟨h.1, h.2.1, h.2.2⟩
theorem canTag_of {role : Int} {D : FrD} (h1 : 0 ≤ role ∧ role ≤ 1) (h2 : 4 ≤ D.kind ∧ D.kind ≤ 8) (h3 : frameOk D = true) : canTag role D = true := by
 unfold canTag isIn; simp [h1, h2, h3]
theorem sealed_parts {D : FrD} (hk : 4 ≤ D.kind ∧ D.kind ≤ 8) : frameOk D = true ↔ D.id = 0 ∧ D.cn = [] ∧ D.sn.length = 12 ∧ D.tick = 0 ∧ D.cookie = [] ∧ D.proof = [] ∧ (0 ≤ D.epoch ∧ D.epoch ≤ 4294967295) ∧ (0 ≤ D.seq ∧ D.seq ≤ 281474976710655) ∧ bodyOk D.kind D.body.length = true ∧ D.tag.length = 16 := by
 unfold frameOk okS
 rw [if_pos (isIn_yes hk)]
 unfold isIn
 simp only [Bool.and_eq_true, beq_iff_eq, decide_eq_true_eq]
 constructor
 ·
  rintro ⟨h1, h2, h3, h4, h5, h6, h7, h8, h9, h10⟩
  exact ⟨h1, List.length_eq_zero_iff.1 (by omega), by omega, h4, List.length_eq_zero_iff.1 (by omega), List.length_eq_zero_iff.1 (by omega), h7, h8, h9, by omega⟩
 ·
  rintro ⟨h1, h2, h3, h4, h5, h6, h7, h8, h9, h10⟩
  exact ⟨h1, by rw [h2]; rfl, by omega, h4, by rw [h5]; rfl, by rw [h6]; rfl, h7, h8, h9, by omega⟩
theorem canTag_head {role : Int} {D : FrD} (h : canTag role D = true) : headOk role D.sn.length D.epoch D.seq = true := by
 obtain ⟨h1, h2, h3⟩ := canTag_parts h
 obtain ⟨_, _, h6, _, _, _, h7, h8, _, _⟩ := (sealed_parts h2).1 h3
 exact (headOk_iff _ _ _ _).2 ⟨h1, by omega, h7, h8⟩
theorem bodyOk_le {k n : Int} (h : bodyOk k n = true) : n ≤ 40 := by
 unfold bodyOk at h
 split at h
 ·
  simpa using h
 ·
  split at h <;> simp at h <;> omega
theorem canTag_body {role : Int} {D : FrD} (h : canTag role D = true) : D.body.length ≤ 40 := by
 obtain ⟨h1, h2, h3⟩ := canTag_parts h
 obtain ⟨_, _, h6, _, _, _, h7, h8, h9, _⟩ := (sealed_parts h2).1 h3
 have := bodyOk_le h9; omega
theorem tagIn_len {role : Int} {D : FrD} (h : canTag role D = true) : (tagIn role D).length = 25 + D.body.length := by
 rw [tagIn_yes role D h]
 have := headL_len _ _ _ _ (canTag_head h)
 simp [this]; omega
theorem tagIn_le (role : Int) (D : FrD) : (tagIn role D).length ≤ 65 := by
 by_cases h : canTag role D = true
 ·
  rw [tagIn_len h]; have := canTag_body h; omega
 ·
  rw [tagIn_no role D (by simpa using h)]; simp
theorem tagIn_bytes (role : Int) (D : FrD) (h1 : Bytes D.sn) (h2 : Bytes D.body) : Bytes (tagIn role D) := by
 by_cases h : canTag role D = true
 ·
  rw [tagIn_yes role D h]
  have hk := (canTag_parts h).2.1
  exact bytes_app (bytes_app (bytes_app (bytes_one (by omega) (by omega)) (headL_bytes _ _ _ _ h1)) (bytes_one (by omega) (by omega))) h2
 ·
  rw [tagIn_no role D (by simpa using h)]; exact fun z hz => by cases hz
theorem tagIn_nil (role : Int) (D : FrD) : ((tagIn role D).length = 0) ↔ canTag role D = false := by
 constructor
 ·
  intro h
  by_cases k : canTag role D = true
  ·
   rw [tagIn_len k] at h; omega
  ·
   simpa using k
 ·
  intro h; rw [tagIn_no _ _ h]; rfl
end Go.Proofs.YtmcflfpckpjphaaGreatDoor.SlP

namespace Go.Proofs.YtmcflfpckpjphaaGreatDoor.Cuts
open Go.RowKit Mem App Get

def cutOf (l : List Int) (i k : Int) : List Int := if there l.length i k = true then piece l i.toNat k.toNat else []
theorem rd_piece {w : World} {b off : Nat} {l : List Int} (h : Rd w (some ⟨b, off, none⟩) l) (i k : Nat) (hk : i + k ≤ l.length) : Rd w (some ⟨b, off + i, none⟩) (piece l i k) := by
 intro j hj
 rw [piece_length l i k hk] at hj
 obtain ⟨b', off', e, h1, h2⟩ := h (i + j) (by omega)
 simp only [Option.some.injEq, Addr.mk.injEq, and_true] at e
 obtain ⟨rfl, rfl⟩ := e
 refine ⟨b, off + i, rfl, h1, ?_⟩
 have e : (piece l i k).getD j 0 = l.getD (i + j) 0 := by simp [piece, List.getD, hj]
 rw [e, Nat.add_assoc]
 exact h2

set_option maxHeartbeats 800000 in
theorem implCut (b off len cap : Nat) (l : List Int) (i k : Int) (w : World) (hl : len = l.length) (hr : Rd w (some ⟨b, off, none⟩) l) (hlc : len ≤ cap) (hlen : len ≤ 4194304) (hi : i ≤ 9223372036854775807) :
  Calls Tryz.prog 71 #[.slice (some ⟨b, off, none⟩) len cap, .int .i64 i, .int .i64 k] w fun e w' =>
   ∃ g m c, e = .returned (.tuple #[.slice (some ⟨g, 0, none⟩) m c, .bool (there len i k)]) ∧ m = (cutOf l i k).length ∧ w.heap.size ≤ g ∧ Row w' g c (cutOf l i k) ∧ Below w.heap.size w w' := by
 have HR := hid (hr)
 have HL : Hid (len = l.length) := hl
 clear hr hl
 by_cases ht : there len i k = true
 ·
  have HC : Hid (cutOf l i k = piece l i.toNat k.toNat) := by
   show cutOf l i k = _
   unfold cutOf; rw [if_pos (by rw [← HL.out]; exact ht)]
  have ht' : 0 ≤ i ∧ 0 ≤ k ∧ k ≤ (len : Int) - i := by simpa [there] using ht
  obtain ⟨I, rfl⟩ := Int.eq_ofNat_of_zero_le ht'.1
  obtain ⟨K, rfl⟩ := Int.eq_ofNat_of_zero_le ht'.2.1
  rw [Int.toNat_natCast, Int.toNat_natCast] at HC
  have k3 : I + K ≤ len := by omega
  have HK : Hid (I + K ≤ l.length) := by show _ ≤ _; rw [← HL.out]; exact k3
  have HP : Hid (Rd w (some ⟨b, off + I, none⟩) (piece l I K)) := rd_piece HR.out I K HK.out
  have HN : Hid (K = (piece l I K).length) := by show _ = _; rw [piece_length l I K HK.out]
  have HM : Hid (I + K - I = (piece l I K).length) := by show _ = _; rw [piece_length l I K HK.out]; omega
  clear ht'
  by_cases hc : cap = I
  ·
   have hk0 : K = 0 := by omega
   subst hk0
   subst hc
   have ht0 : there len (cap : Int) 0 = true := by simpa using ht
   have HC0 : Hid (cutOf l (cap : Int) ((0 : Nat) : Int) = []) := by show _ = _; rw [HC.out]; simp [piece]
   clear ht HC
   go_enter Tryz.func71, Tryz.ntmps71
   go_wp2_with fail
   refine (allThere _ len _ _ _ _ hlen hi).mono ?_
   rintro e w1 ⟨rfl, rfl⟩
   go_wp2_with fail
   refine (putBytes _ none 0 0 0 0 [] [] w rfl rfl (by intro i hi; cases hi) (by intro i hi; cases hi) (fun _ => rfl) (fun _ => rfl) (by simp) (by simp)).mono ?_
   rintro e w2 ⟨rfl, h3, h4⟩
   go_wp2
   go_ret2
   exact ⟨w.heap.size, 0, 0, by simp [ht0], by rw [HC0.out]; rfl, Nat.le_refl _, by rw [HC0.out]; exact h3, h4⟩
  ·
   go_enter Tryz.func71, Tryz.ntmps71
   go_wp2_with fail
   refine (allThere _ len cap _ _ _ hlen hi).mono ?_
   rintro e w1 ⟨rfl, rfl⟩
   go_wp2_with fail
   refine (putBytes _ none _ _ 0 0 (piece l I K) [] w HN.out rfl HP.out (by intro i hi; cases hi) (by intro h; cases h) (fun _ => rfl) (by rw [← HN.out]; omega) (by simp)).mono ?_
   rintro e w2 ⟨rfl, h3, h4⟩
   go_wp2
   go_ret2
   exact ⟨w.heap.size, K, K, by simp [ht], by rw [HC.out, ← HN.out], Nat.le_refl _, by rw [HC.out]; simpa using h3, h4⟩
 ·
  have hf : there len i k = false := by simpa using ht
  have HC : Hid (cutOf l i k = []) := by
   show cutOf l i k = _
   unfold cutOf; rw [if_neg (by rw [← HL.out]; exact ht)]
  clear ht
  go_enter Tryz.func71, Tryz.ntmps71
  go_wp2_with fail
  refine (allThere _ len cap _ _ _ hlen hi).mono ?_
  rintro e w1 ⟨rfl, rfl⟩
  go_wp2
  go_ret2
  exact ⟨w.heap.size, 0, 0, by simp [hf], by rw [HC.out]; rfl, Nat.le_refl _, by rw [HC.out]; exact row_new w [] (by simp), (Below.refl _ _).alloc (Nat.le_refl _) _⟩

end Go.Proofs.YtmcflfpckpjphaaGreatDoor.Cuts

namespace Go.Proofs.YtmcflfpckpjphaaGreatDoor.WordsOf
open Go.RowKit Mem MemI Blk App Get ShaP Word Bits Sched Words

theorem blk_drew {w : World} {g : Nat} {t : TypeId} {cs : List Value} (h : Blk w g t cs) : Blk w.drew g t cs := h
end Go.Proofs.YtmcflfpckpjphaaGreatDoor.WordsOf

namespace Go.Proofs.YtmcflfpckpjphaaGreatDoor.Sched2
open Go.RowKit Mem MemI Blk App Get ShaP Word Bits Sched

def schedI (b : List Int) : List Int := if b.length = 64 then sched b else []
end Go.Proofs.YtmcflfpckpjphaaGreatDoor.Sched2

namespace Go.Proofs.YtmcflfpckpjphaaGreatDoor.SchedS
open Go.RowKit Mem MemI Blk App Get ShaP Word Bits Sched Sched2

theorem istep_app {ops : Array Oper} {o : Oper} {a : Act} {w : World} {K : Act → World → Prop} {Q : Exit → Act → World → Prop} {E : Prop}
  (hgd : o.guard = none) (s x : Operand) (hop : o.op = .call { callee := .builtin .append, args := #[s, x], argTypes := #[37, 37] })
  (base g n cap : Nat) (l y : List Int) (hs : a.eval s = .slice (some ⟨g, 0, none⟩) n cap) (hn : n = l.length) (hrow : IRow w g cap l) (hbg : base ≤ g)
  (ad : Addr) (m c : Nat) (hx : a.eval x = .slice (some ad) m c) (hm : m = y.length) (hrd : IRd w (some ad) y) (hsum : l.length + y.length ≤ 100000000)
  (hK : ∀ g' cap' w', IRow w' g' cap' (l ++ y) → base ≤ g' → g' < w'.heap.size → w.grownBy w' (some g) → K (a.put o.dst (.slice (some ⟨g', 0, none⟩) (n + m) cap')) w') :
  if Region.wanted o (yielded ops a.tmps) = true then Oper.wp Tryz.prog o a w K Q else E := by
 have hw : Region.wanted o (yielded ops a.tmps) = true := by simp [Region.wanted, hgd]
 rw [if_pos hw]
 obtain ⟨i0, hi, hz0, hz1, hz2⟩ := info_parts info64
 subst hn hm
 have hlt := hrow.lt
 refine wp_append_own w s x 37 hop base 3 i0 (.int .i64 0) 1 8 Tryz.underlying37 hi hz0 hz1 hz2 rfl (by decide) _ _ _ hs (hrow.owns hbg) ad y.length c (y.map (Value.int .i64)) hx (by simp) (IRd.cells hrd) (ints_oneCell _ _) (by unfold maxLen; omega) (by omega) (by omega) ?_
 intro v' w' hown hgr hiff
 rcases hown.2 with ⟨hv, _⟩ | ⟨g', cap', cur, rfl, hb, hg', _⟩
 ·
  exact absurd (hiff.1 hv).1 (by simp)
 ·
  rw [← List.map_append] at hown
  obtain ⟨r1, r2, _, r4⟩ := IRow.of hown
  exact hK g' cap' w' r1 r2 r4 hgr

theorem ird_heap {w w' : World} {a : Option Addr} {l : List Int} (h : IRd w a l) (e : w'.heap = w.heap) : IRd w' a l := by
 intro i hi
 obtain ⟨b, off, rfl, h1, h2⟩ := h i hi
 exact ⟨b, off, rfl, by rw [e]; exact h1, by rw [World.cell?_of_block (w := w) (by rw [e])]; exact h2⟩

set_option maxHeartbeats 1600000 in
theorem specSchedule (a : Option Addr) (n cap : Nat) (b : List Int) (w : World) (hl : n = b.length) (hr : Rd w a b) (hb : Bytes b) (hn : n ≤ 4194304) :
  Calls Tryz.prog 178 #[.slice a n cap] w fun e w' =>
   ∃ g m c, e = .returned (.slice (some ⟨g, 0, none⟩) m c) ∧ m = (schedI b).length ∧ w.heap.size ≤ g ∧ IRow w' g c (schedI b) ∧ Below w.heap.size w w' := by
 have HA1 : Hid (Below w.heap.size w (w.alloc (.cells #[] 3))) := (Below.refl _ _).alloc (Nat.le_refl _) _
 have HN1 : Hid (IRow (w.alloc (.cells #[] 3)) w.heap.size 0 []) := irow_new w [] (by simp)
 by_cases h64 : n = 64
 ·
  subst h64
  have HS : Hid (schedI b = more (first b 16) 48) := by show _ = _; unfold schedI; rw [if_pos hl.symm]; rfl
  have HR := hid (hr)
  have HB := hid (hb)
  have HL : Hid (b.length = 64) := hl.symm
  clear hr hb hl
  go_enter Tryz.func178, Tryz.ntmps178
  go_wp2
  go_loopw [3, 4] (fun v i wr => ∃ k g c : Nat, k ≤ 16 ∧ i = .int .i64 k ∧ v = .slice (some ⟨g, 0, none⟩) k c ∧ w.heap.size ≤ g ∧ IRow wr g c (first b k) ∧ Below w.heap.size w wr)
   (fun _ i _ => 16 - (intOf i).toNat)
  case atStart => exact ⟨0, w.heap.size, 0, Nat.zero_le _, rfl, rfl, Nat.le_refl _, HN1.out, HA1.out⟩
  case round =>
   obtain ⟨k, g, c, hk, rfl, rfl, hg, hrow, hbe⟩ := hrel
   clear HN1 HA1
   have HRow := hid (hrow)
   have HBe := hid (hbe)
   clear hrow hbe
   by_cases hlt : k < 16
   ·
    have hG : gotN b (4 * (k : Int)) 4 = .tuple #[.int .i64 (val (piece b (4 * k) 4)), .int .i64 (4 * (k : Int) + 4), .bool true] := by
     unfold gotN
     rw [if_pos ⟨(isSize_iff 4).2 (by omega), there_yes (by rw [HL.out]; omega)⟩]
     rw [show (4 * (k : Int)).toNat = 4 * k by omega]; rfl
    have HF : Hid (first b (k + 1) = first b k ++ [val (piece b (4 * k) 4)]) := first_succ b k
    have HK : Hid (k = (first b k).length) := (first_length b k).symm
    generalize val (piece b (4 * k) 4) = v1 at *
    go_wp2_with fail
    refine (specGetN a 64 cap b (4 * (k : Int)) 4 wr HL.out.symm (HR.out.later HBe.out (Nat.le_refl _)) HB.out (by omega)).mono ?_
    rintro e w1 ⟨rfl, rfl⟩
    go_wp2_with (at_builtin; refine iwpList_app _ rfl (.tmp 30) (.tmp 32) rfl w.heap.size g k c (first b k) [v1] rfl HK.out (irow_alloc HRow.out _) hg (some ⟨wr.heap.size, 0, none⟩) 1 1 rfl rfl (ird_one _ _) (by intro h; cases h) (by rw [← HK.out]; simp; omega) ?_; intro g2 c2 w2 r2 b2 l2 gr2; have R2 := hid (r2); have B2 : Hid (Below w.heap.size w w2) := (HBe.out.alloc HBe.out.size _).grown gr2 (Nat.le_trans HBe.out.size (by simp)) (fun k h => by cases h; exact hg); clear r2 gr2 l2)
    go_roundw
    case rel => exact ⟨k + 1, g2, c2, by omega, by go_num, rfl, b2, by rw [HF.out]; exact R2.out, B2.out⟩
    case measure => simp [intOf]; omega
   ·
    obtain rfl : k = 16 := by omega
    go_wp2
    go_loopw [3, 8] (fun v i wr => ∃ n g c : Nat, n ≤ 48 ∧ i = .int .i64 ((n : Int) + 16) ∧ v = .slice (some ⟨g, 0, none⟩) (n + 16) c ∧ w.heap.size ≤ g ∧ IRow wr g c (more (first b 16) n) ∧ Below w.heap.size w wr)
     (fun _ i _ => 64 - (intOf i).toNat)
    case atStart => exact ⟨0, g, c, Nat.zero_le _, rfl, rfl, hg, HRow.out, HBe.out⟩
    case round =>
     obtain ⟨n, g, c, hn, rfl, rfl, hg, hrow, hbe⟩ := hrel
     clear HRow HBe
     have HRow := hid (hrow)
     have HBe := hid (hbe)
     have HK : Hid (n + 16 = (more (first b 16) n).length) := by show _ = _; rw [more_length, first_length]; omega
     clear hrow hbe
     by_cases hlt : n < 48
     ·
      have c1 := HRow.out.cell (n + 1) (by rw [← HK.out]; omega)
      have c2 := HRow.out.cell (n + 14) (by rw [← HK.out]; omega)
      have c3 := HRow.out.cell (n + 9) (by rw [← HK.out]; omega)
      have c4 := HRow.out.cell n (by rw [← HK.out]; omega)
      have hws : Wds (more (first b 16) n) := more_wds _ _ (first_wds b 16 HB.out)
      have w1 := hws.at (n + 1)
      have w2 := hws.at (n + 14)
      have w3 := hws.at (n + 9)
      have w4 := hws.at n
      obtain ⟨z, hz⟩ : ∃ z, nextW (more (first b 16) n) (16 + n) = z := ⟨_, rfl⟩
      have HN : Hid (((more (first b 16) n).getD (n + 9) 0 + (more (first b 16) n).getD n 0 + s0 ((more (first b 16) n).getD (n + 1) 0) + s1 ((more (first b 16) n).getD (n + 14) 0)) % 4294967296 = z) := by
       show _ = _
       rw [← hz]; unfold nextW
       rw [show 16 + n - 7 = n + 9 by omega, show 16 + n - 16 = n by omega, show 16 + n - 15 = n + 1 by omega, show 16 + n - 2 = n + 14 by omega]
      have HF : Hid (more (first b 16) (n + 1) = more (first b 16) n ++ [z]) := by rw [← hz]; exact (rfl : more (first b 16) (n + 1) = _)
      clear hz hws
      obtain ⟨L, hL⟩ : ∃ L, more (first b 16) n = L := ⟨_, rfl⟩
      rw [hL] at HRow HK HF HN c1 c2 c3 c4 w1 w2 w3 w4
      clear hL
      generalize L.getD (n + 1) 0 = x1 at *
      generalize L.getD (n + 14) 0 = x2 at *
      generalize L.getD (n + 9) 0 = x3 at *
      generalize L.getD n 0 = x4 at *
      obtain ⟨w1a, w1b⟩ := w1
      obtain ⟨w2a, w2b⟩ := w2
      obtain ⟨w3a, w3b⟩ := w3
      obtain ⟨w4a, w4b⟩ := w4
      have hs0 : Wd (bits .xor .i64 (bits .xor .i64 (rot x1 7) (rot x1 18)) (x1 / 8)) := wd_s0 (x := x1) ⟨w1a, w1b⟩
      have hs1 : Wd (bits .xor .i64 (bits .xor .i64 (rot x2 17) (rot x2 19)) (x2 / 1024)) := wd_s1 (x := x2) ⟨w2a, w2b⟩
      have HN : Hid ((x3 + x4 + bits .xor .i64 (bits .xor .i64 (rot x1 7) (rot x1 18)) (x1 / 8) + bits .xor .i64 (bits .xor .i64 (rot x2 17) (rot x2 19)) (x2 / 1024)) % 4294967296 = z) := HN.out
      have i1 : (0 : Int) ≤ (n : Int) + 16 - 15 := by omega
      have i2 : (n : Int) + 16 - 15 < ((n + 16 : Nat) : Int) := by omega
      have i3 : (0 : Int) ≤ (n : Int) + 16 - 2 := by omega
      have i4 : (n : Int) + 16 - 2 < ((n + 16 : Nat) : Int) := by omega
      go_wp2_with fail
      refine (specRot _ _ _).mono ?_
      rintro e _ ⟨rfl, q1, rfl⟩
      go_wp2_with fail
      refine (specRotD _ _ _ _).mono ?_
      rintro e _ ⟨rfl, q2, rfl⟩
      go_wp2_with fail
      refine (specRotD _ _ _ _).mono ?_
      rintro e _ ⟨rfl, q3, rfl⟩
      go_wp2_with fail
      refine (specRotD _ _ _ _).mono ?_
      rintro e _ ⟨rfl, q4, rfl⟩
      go_wp2_with fail
      generalize bits .xor .i64 (bits .xor .i64 (rot x1 7) (rot x1 18)) (x1 / 8) = f0 at *
      generalize bits .xor .i64 (bits .xor .i64 (rot x2 17) (rot x2 19)) (x2 / 1024) = f1 at *
      obtain ⟨f0a, f0b⟩ := hs0
      obtain ⟨f1a, f1b⟩ := hs1
      obtain ⟨p, hp⟩ : ∃ p : Nat, n + 9 = p := ⟨_, rfl⟩
      rw [hp] at c3
      have hp64 : (p : Int) < (n : Int) + 16 := by omega
      have hn64 : (n : Int) < (n : Int) + 16 := by omega
      have j1 : IntKind.i64.wrap ((n : Int) + 16 - 7) = (p : Int) := by rw [IntKind.wrap_i64]; omega
      have j2 : IntKind.i64.wrap (n : Int) = (n : Int) := by rw [IntKind.wrap_i64]; omega
      have j3 : IntKind.i64.wrap (x3 + x4) = x3 + x4 := by rw [IntKind.wrap_i64]; omega
      have j4 : IntKind.i64.wrap (x3 + x4 + f0) = x3 + x4 + f0 := by rw [IntKind.wrap_i64]; omega
      have j5 : IntKind.i64.wrap (x3 + x4 + f0 + f1) = x3 + x4 + f0 + f1 := by rw [IntKind.wrap_i64]; omega
      have j6 : bits .and .i64 (x3 + x4 + f0 + f1) 4294967295 = z := by rw [mask32]; exact HN.out
      clear hp
      go_region_law (refine istep_app rfl (.tmp 64) (.tmp 81) rfl w.heap.size g (n + 16) c L [z] (by simp [Act.eval]) HK.out (by exact (irow_alloc HRow.out (.cells #[.int .i64 z] 3)).keep rfl) hg ⟨wr.heap.size, 0, none⟩ 1 1 (by simp [Act.eval]) rfl (by exact ird_heap (ird_one wr _) rfl) (by rw [← HK.out]; simp; omega) ?_; intro g2 c2 w2 r2 b2 l2 gr2; have R2 := hid (r2); have B2 : Hid (Below w.heap.size w w2) := Below.grown (below_drewN ((HBe.out.alloc HBe.out.size (.cells #[.int .i64 z] 3))) (q4 + 1)) gr2 (Nat.le_trans HBe.out.size (by simp)) (fun k h => by cases h; exact hg); clear r2 gr2 l2)
      all_goals
       go_wp2
       refine ⟨?_, ?measure⟩
       (repeat apply Exists.intro)
       refine ⟨?rel, rfl⟩
       case rel => exact ⟨n + 1, g2, c2, by omega, by go_num, by rw [show n + 1 + 16 = n + 16 + 1 by omega], b2, by rw [HF.out]; exact R2.out, B2.out⟩
       case measure => simp [intOf]; omega
     ·
      obtain rfl : n = 48 := by omega
      have HM : Hid ((more (first b 16) 48).length = 64) := by show _ = _; rw [more_length, first_length]
      go_wp2
      go_ret
      exact ⟨g, 64, c, rfl, by rw [HS.out, HM.out], hg, by rw [HS.out]; exact HRow.out, HBe.out⟩
 ·
  have HS : Hid (schedI b = []) := by show _ = _; unfold schedI; rw [if_neg (by omega)]
  have hne : ((n : Int) != 64) = true := by simp; omega
  clear h64 hl hr hb
  go_enter Tryz.func178, Tryz.ntmps178
  go_wp2
  go_ret
  exact ⟨w.heap.size, 0, 0, by simp, by rw [HS.out]; rfl, Nat.le_refl _, by rw [HS.out]; exact HN1.out, HA1.out⟩
end Go.Proofs.YtmcflfpckpjphaaGreatDoor.SchedS
