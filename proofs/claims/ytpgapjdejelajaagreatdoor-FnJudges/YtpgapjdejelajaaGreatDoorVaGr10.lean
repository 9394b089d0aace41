/-
  Numbers and their bytes as plain facts.
  Right frames with the same bytes are the same; what it is to be read out of bytes.
  The words behind impl's interface: what each asks of its parts, and the frame that it is.
-/
import Derived.Test.YtpgapjdejelajaaGreatDoorVaGr2
import Derived.Test.YtpgapjdejelajaaGreatDoorVaGr9
set_option linter.unusedVariables false

set_option maxRecDepth 100000
namespace Go.Proofs.YtpgapjdejelajaaGreatDoor.FrW
open Go.RowKit Mem Blk Words Zone Res FrZ FrP

theorem isId (x : Int) (w : World) :
  Calls Tryz.prog 73 #[.int .i64 x] w fun e w' => e = .returned (.bool (isIn x 1 9)) ∧ w = w' := by
 by_cases h1 : x ≥ 1
 ·
  by_cases h2 : x ≤ 9
  ·
   have H : Hid (isIn x 1 9 = true) := isIn_yes ⟨h1, by omega⟩
   go_enter Tryz.func73, Tryz.ntmps73
   go_wp2
   go_ret
   exact ⟨by rw [H.out]; simp, rfl⟩
  ·
   have H : Hid (isIn x 1 9 = false) := isIn_no (fun h => h2 (by omega))
   go_enter Tryz.func73, Tryz.ntmps73
   go_wp2
   go_ret
   exact ⟨by rw [H.out]; simp, rfl⟩
 ·
  have H : Hid (isIn x 1 9 = false) := isIn_no (fun h => h1 h.1)
  go_enter Tryz.func73, Tryz.ntmps73
  go_wp2
  go_ret
  exact ⟨by rw [H.out]; simp, rfl⟩

theorem isTime (x : Int) (w : World) :
  Calls Tryz.prog 48 #[.int .i64 x] w fun e w' => e = .returned (.bool (isIn x 0 1000000)) ∧ w = w' := by
 by_cases h1 : x ≥ 0
 ·
  by_cases h2 : x ≤ 1000000
  ·
   have H : Hid (isIn x 0 1000000 = true) := isIn_yes ⟨h1, by omega⟩
   go_enter Tryz.func48, Tryz.ntmps48
   go_wp2
   go_ret
   exact ⟨by rw [H.out]; simp, rfl⟩
  ·
   have H : Hid (isIn x 0 1000000 = false) := isIn_no (fun h => h2 (by omega))
   go_enter Tryz.func48, Tryz.ntmps48
   go_wp2
   go_ret
   exact ⟨by rw [H.out]; simp, rfl⟩
 ·
  have H : Hid (isIn x 0 1000000 = false) := isIn_no (fun h => h1 h.1)
  go_enter Tryz.func48, Tryz.ntmps48
  go_wp2
  go_ret
  exact ⟨by rw [H.out]; simp, rfl⟩

theorem isEpoch (x : Int) (w : World) :
  Calls Tryz.prog 145 #[.int .i64 x] w fun e w' => e = .returned (.bool (isIn x 0 4294967295)) ∧ w = w' := by
 by_cases h1 : x ≥ 0
 ·
  by_cases h2 : x ≤ 4294967295
  ·
   have H : Hid (isIn x 0 4294967295 = true) := isIn_yes ⟨h1, by omega⟩
   go_enter Tryz.func145, Tryz.ntmps145
   go_wp2
   go_ret
   exact ⟨by rw [H.out]; simp, rfl⟩
  ·
   have H : Hid (isIn x 0 4294967295 = false) := isIn_no (fun h => h2 (by omega))
   go_enter Tryz.func145, Tryz.ntmps145
   go_wp2
   go_ret
   exact ⟨by rw [H.out]; simp, rfl⟩
 ·
  have H : Hid (isIn x 0 4294967295 = false) := isIn_no (fun h => h1 h.1)
  go_enter Tryz.func145, Tryz.ntmps145
  go_wp2
  go_ret
  exact ⟨by rw [H.out]; simp, rfl⟩

theorem isSeq (x : Int) (w : World) :
  Calls Tryz.prog 146 #[.int .i64 x] w fun e w' => e = .returned (.bool (isIn x 0 281474976710655)) ∧ w = w' := by
 by_cases h1 : x ≥ 0
 ·
  by_cases h2 : x < 281474976710656
  ·
   have H : Hid (isIn x 0 281474976710655 = true) := isIn_yes ⟨h1, by omega⟩
   go_enter Tryz.func146, Tryz.ntmps146
   go_wp2
   go_ret
   exact ⟨by rw [H.out]; simp, rfl⟩
  ·
   have H : Hid (isIn x 0 281474976710655 = false) := isIn_no (fun h => h2 (by omega))
   go_enter Tryz.func146, Tryz.ntmps146
   go_wp2
   go_ret
   exact ⟨by rw [H.out]; simp, rfl⟩
 ·
  have H : Hid (isIn x 0 281474976710655 = false) := isIn_no (fun h => h1 h.1)
  go_enter Tryz.func146, Tryz.ntmps146
  go_wp2
  go_ret
  exact ⟨by rw [H.out]; simp, rfl⟩

theorem isNonce (a : Option Addr) (n c : Nat) (w : World) :
  Calls Tryz.prog 59 #[.slice a n c] w fun e w' => e = .returned (.bool ((n : Int) == 12)) ∧ w = w' := by
 go_enter Tryz.func59, Tryz.ntmps59
 go_wp2
 go_ret
 exact ⟨by simp, rfl⟩

theorem isTag (a : Option Addr) (n c : Nat) (w : World) :
  Calls Tryz.prog 94 #[.slice a n c] w fun e w' => e = .returned (.bool ((n : Int) == 16)) ∧ w = w' := by
 go_enter Tryz.func94, Tryz.ntmps94
 go_wp2
 go_ret
 exact ⟨by simp, rfl⟩

set_option maxHeartbeats 1600000 in
theorem initRight (id : Int) (cn : Sl) (w : World) :
  Calls Tryz.prog 140 #[.agg #[.int .i64 id, .slice cn.a cn.n cn.c]] w fun e w' => e = .returned (.bool (isIn id 1 9 && ((cn.n : Int) == 12))) ∧ Below w.heap.size w w' := by
 obtain ⟨x0, hx0⟩ : ∃ x0, w.alloc (.cells #[.int .i64 id, .slice cn.a cn.n cn.c] 116) = x0 := ⟨_, rfl⟩
 have HW0 := hid (hx0)
 have B0 : Hid (Below w.heap.size w x0) := by rw [← hx0]; exact (Below.refl _ _).alloc (Nat.le_refl _) _
 have K0 : Hid (Blk x0 w.heap.size 116 [.int .i64 id, .slice cn.a cn.n cn.c]) := by rw [← hx0]; exact Blk.new w _ _
 clear hx0
 go_enter Tryz.func140, Tryz.ntmps140
 go_wp2_with fail
 rw [HW0.out]
 generalize hga : w.heap.size = ga at K0 ⊢
 have c0 := K0.out.cell 0 rfl
 have c1 := K0.out.cell 1 rfl
 refine (isId id x0).mono ?_
 rintro e y ⟨rfl, rfl⟩
 cases h0 : (isIn id 1 9) with
 | false =>
  go_wp2
  go_ret
  exact ⟨by rw [h0]; simp, hga ▸ B0.out⟩
 | true =>
  go_wp2_with fail
  refine (isNonce cn.a cn.n cn.c x0).mono ?_
  rintro e y ⟨rfl, rfl⟩
  go_wp2
  go_ret
  exact ⟨by rw [h0]; simp, hga ▸ B0.out⟩

set_option maxHeartbeats 1600000 in
theorem cookRight (cn sn : Sl) (tick : Int) (cookie : Sl) (w : World) :
  Calls Tryz.prog 74 #[.agg #[.slice cn.a cn.n cn.c, .slice sn.a sn.n sn.c, .int .i64 tick, .slice cookie.a cookie.n cookie.c]] w fun e w' => e = .returned (.bool ((cn.n : Int) == 12 && ((sn.n : Int) == 12 && (isIn tick 0 1000000 && ((cookie.n : Int) == 16))))) ∧ Below w.heap.size w w' := by
 obtain ⟨x0, hx0⟩ : ∃ x0, w.alloc (.cells #[.slice cn.a cn.n cn.c, .slice sn.a sn.n sn.c, .int .i64 tick, .slice cookie.a cookie.n cookie.c] 65) = x0 := ⟨_, rfl⟩
 have HW0 := hid (hx0)
 have B0 : Hid (Below w.heap.size w x0) := by rw [← hx0]; exact (Below.refl _ _).alloc (Nat.le_refl _) _
 have K0 : Hid (Blk x0 w.heap.size 65 [.slice cn.a cn.n cn.c, .slice sn.a sn.n sn.c, .int .i64 tick, .slice cookie.a cookie.n cookie.c]) := by rw [← hx0]; exact Blk.new w _ _
 clear hx0
 go_enter Tryz.func74, Tryz.ntmps74
 go_wp2_with fail
 rw [HW0.out]
 generalize hga : w.heap.size = ga at K0 ⊢
 have c0 := K0.out.cell 0 rfl
 have c1 := K0.out.cell 1 rfl
 have c2 := K0.out.cell 2 rfl
 have c3 := K0.out.cell 3 rfl
 refine (isNonce cn.a cn.n cn.c x0).mono ?_
 rintro e y ⟨rfl, rfl⟩
 cases h0 : ((cn.n : Int) == 12) with
 | false =>
  go_wp2
  go_ret
  exact ⟨by rw [h0]; simp, hga ▸ B0.out⟩
 | true =>
  go_wp2_with fail
  refine (isNonce sn.a sn.n sn.c x0).mono ?_
  rintro e y ⟨rfl, rfl⟩
  cases h1 : ((sn.n : Int) == 12) with
  | false =>
   go_wp2
   go_ret
   exact ⟨by rw [h0, h1]; simp, hga ▸ B0.out⟩
  | true =>
   go_wp2_with fail
   refine (isTime tick x0).mono ?_
   rintro e y ⟨rfl, rfl⟩
   cases h2 : (isIn tick 0 1000000) with
   | false =>
    go_wp2
    go_ret
    exact ⟨by rw [h0, h1, h2]; simp, hga ▸ B0.out⟩
   | true =>
    go_wp2_with fail
    refine (isTag cookie.a cookie.n cookie.c x0).mono ?_
    rintro e y ⟨rfl, rfl⟩
    go_wp2
    go_ret
    exact ⟨by rw [h0, h1, h2]; simp, hga ▸ B0.out⟩

set_option maxHeartbeats 1600000 in
theorem finRight (id : Int) (cn sn : Sl) (tick : Int) (cookie proof : Sl) (w : World) :
  Calls Tryz.prog 142 #[.agg #[.int .i64 id, .slice cn.a cn.n cn.c, .slice sn.a sn.n sn.c, .int .i64 tick, .slice cookie.a cookie.n cookie.c, .slice proof.a proof.n proof.c]] w fun e w' => e = .returned (.bool (isIn id 1 9 && (((cn.n : Int) == 12) && (((sn.n : Int) == 12) && (isIn tick 0 1000000 && ((cookie.n : Int) == 16))) && ((proof.n : Int) == 16)))) ∧ Below w.heap.size w w' := by
 obtain ⟨x0, hx0⟩ : ∃ x0, w.alloc (.cells #[.int .i64 id, .slice cn.a cn.n cn.c, .slice sn.a sn.n sn.c, .int .i64 tick, .slice cookie.a cookie.n cookie.c, .slice proof.a proof.n proof.c] 119) = x0 := ⟨_, rfl⟩
 have HW0 := hid (hx0)
 have B0 : Hid (Below w.heap.size w x0) := by rw [← hx0]; exact (Below.refl _ _).alloc (Nat.le_refl _) _
 have K0 : Hid (Blk x0 w.heap.size 119 [.int .i64 id, .slice cn.a cn.n cn.c, .slice sn.a sn.n sn.c, .int .i64 tick, .slice cookie.a cookie.n cookie.c, .slice proof.a proof.n proof.c]) := by rw [← hx0]; exact Blk.new w _ _
 clear hx0
 go_enter Tryz.func142, Tryz.ntmps142
 go_wp2_with fail
 rw [HW0.out]
 generalize hga : w.heap.size = ga at K0 ⊢
 have c0 := K0.out.cell 0 rfl
 have c1 := K0.out.cell 1 rfl
 have c2 := K0.out.cell 2 rfl
 have c3 := K0.out.cell 3 rfl
 have c4 := K0.out.cell 4 rfl
 have c5 := K0.out.cell 5 rfl
 refine (isId id x0).mono ?_
 rintro e y ⟨rfl, rfl⟩
 cases h0 : (isIn id 1 9) with
 | false =>
  go_wp2
  go_ret
  exact ⟨by rw [h0]; simp, hga ▸ B0.out⟩
 | true =>
  go_wp2_with fail
  refine (cookRight cn sn tick cookie x0).mono ?_
  rintro e x1 ⟨rfl, b1⟩
  have B1 := hid (B0.out.trans (b1.mono B0.out.size))
  have K1 := hid (K0.out.later b1)
  clear b1 c0 c1 c2 c3 c4 c5
  have c0 := K1.out.cell 0 rfl
  have c1 := K1.out.cell 1 rfl
  have c2 := K1.out.cell 2 rfl
  have c3 := K1.out.cell 3 rfl
  have c4 := K1.out.cell 4 rfl
  have c5 := K1.out.cell 5 rfl
  cases h1 : (((cn.n : Int) == 12) && (((sn.n : Int) == 12) && (isIn tick 0 1000000 && ((cookie.n : Int) == 16)))) with
  | false =>
   go_wp2
   go_ret
   exact ⟨by rw [h0, h1]; simp, hga ▸ B1.out⟩
  | true =>
   go_wp2_with fail
   refine (isTag proof.a proof.n proof.c x1).mono ?_
   rintro e y ⟨rfl, rfl⟩
   go_wp2
   go_ret
   exact ⟨by rw [h0, h1]; simp, hga ▸ B1.out⟩

set_option maxHeartbeats 1600000 in
theorem partsRight (sn : Sl) (epoch seq : Int) (tag body : Sl) (w : World) :
  Calls Tryz.prog 144 #[.agg #[.slice sn.a sn.n sn.c, .int .i64 epoch, .int .i64 seq, .slice tag.a tag.n tag.c, .slice body.a body.n body.c]] w fun e w' => e = .returned (.bool ((sn.n : Int) == 12 && (isIn epoch 0 4294967295 && (isIn seq 0 281474976710655 && ((tag.n : Int) == 16))))) ∧ Below w.heap.size w w' := by
 obtain ⟨x0, hx0⟩ : ∃ x0, w.alloc (.cells #[.slice sn.a sn.n sn.c, .int .i64 epoch, .int .i64 seq, .slice tag.a tag.n tag.c, .slice body.a body.n body.c] 121) = x0 := ⟨_, rfl⟩
 have HW0 := hid (hx0)
 have B0 : Hid (Below w.heap.size w x0) := by rw [← hx0]; exact (Below.refl _ _).alloc (Nat.le_refl _) _
 have K0 : Hid (Blk x0 w.heap.size 121 [.slice sn.a sn.n sn.c, .int .i64 epoch, .int .i64 seq, .slice tag.a tag.n tag.c, .slice body.a body.n body.c]) := by rw [← hx0]; exact Blk.new w _ _
 clear hx0
 go_enter Tryz.func144, Tryz.ntmps144
 go_wp2_with fail
 rw [HW0.out]
 generalize hga : w.heap.size = ga at K0 ⊢
 obtain ⟨c0, c1, c2, c3, c4⟩ := cells5 K0.out
 refine (isNonce sn.a sn.n sn.c x0).mono ?_
 rintro e y ⟨rfl, rfl⟩
 cases h0 : ((sn.n : Int) == 12) with
 | false =>
  go_wp2
  go_ret
  exact ⟨by rw [h0]; simp, hga ▸ B0.out⟩
 | true =>
  go_wp2_with fail
  refine (isEpoch epoch x0).mono ?_
  rintro e y ⟨rfl, rfl⟩
  cases h1 : (isIn epoch 0 4294967295) with
  | false =>
   go_wp2
   go_ret
   exact ⟨by rw [h0, h1]; simp, hga ▸ B0.out⟩
  | true =>
   go_wp2_with fail
   refine (isSeq seq x0).mono ?_
   rintro e y ⟨rfl, rfl⟩
   cases h2 : (isIn seq 0 281474976710655) with
   | false =>
    go_wp2
    go_ret
    exact ⟨by rw [h0, h1, h2]; simp, hga ▸ B0.out⟩
   | true =>
    go_wp2_with fail
    refine (isTag tag.a tag.n tag.c x0).mono ?_
    rintro e y ⟨rfl, rfl⟩
    go_wp2
    go_ret
    exact ⟨by rw [h0, h1, h2]; simp, hga ▸ B0.out⟩

set_option maxHeartbeats 1600000 in
theorem dataRight (sn : Sl) (epoch seq : Int) (tag body : Sl) (w : World) :
  Calls Tryz.prog 148 #[.agg #[.slice sn.a sn.n sn.c, .int .i64 epoch, .int .i64 seq, .slice tag.a tag.n tag.c, .slice body.a body.n body.c]] w fun e w' => e = .returned (.bool (((sn.n : Int) == 12) && (isIn epoch 0 4294967295 && (isIn seq 0 281474976710655 && ((tag.n : Int) == 16))) && (decide ((body.n : Int) ≤ 40)))) ∧ Below w.heap.size w w' := by
 obtain ⟨x0, hx0⟩ : ∃ x0, w.alloc (.cells #[.slice sn.a sn.n sn.c, .int .i64 epoch, .int .i64 seq, .slice tag.a tag.n tag.c, .slice body.a body.n body.c] 124) = x0 := ⟨_, rfl⟩
 have HW0 := hid (hx0)
 have B0 : Hid (Below w.heap.size w x0) := by rw [← hx0]; exact (Below.refl _ _).alloc (Nat.le_refl _) _
 have K0 : Hid (Blk x0 w.heap.size 124 [.slice sn.a sn.n sn.c, .int .i64 epoch, .int .i64 seq, .slice tag.a tag.n tag.c, .slice body.a body.n body.c]) := by rw [← hx0]; exact Blk.new w _ _
 clear hx0
 go_enter Tryz.func148, Tryz.ntmps148
 go_wp2_with fail
 rw [HW0.out]
 generalize hga : w.heap.size = ga at K0 ⊢
 obtain ⟨c0, c1, c2, c3, c4⟩ := cells5 K0.out
 refine (partsRight sn epoch seq tag body x0).mono ?_
 rintro e x1 ⟨rfl, b1⟩
 have B1 := hid (B0.out.trans (b1.mono B0.out.size))
 have K1 := hid (K0.out.later b1)
 clear b1 c0 c1 c2 c3 c4
 obtain ⟨c0, c1, c2, c3, c4⟩ := cells5 K1.out
 cases h0 : (((sn.n : Int) == 12) && (isIn epoch 0 4294967295 && (isIn seq 0 281474976710655 && ((tag.n : Int) == 16)))) with
 | false =>
  go_wp2
  go_ret
  exact ⟨by rw [h0]; simp, hga ▸ B1.out⟩
 | true =>
  go_wp2
  go_ret
  exact ⟨by rw [h0]; simp, hga ▸ B1.out⟩

set_option maxHeartbeats 1600000 in
theorem chalRight (sn : Sl) (epoch seq : Int) (tag body : Sl) (w : World) :
  Calls Tryz.prog 150 #[.agg #[.slice sn.a sn.n sn.c, .int .i64 epoch, .int .i64 seq, .slice tag.a tag.n tag.c, .slice body.a body.n body.c]] w fun e w' => e = .returned (.bool (((sn.n : Int) == 12) && (isIn epoch 0 4294967295 && (isIn seq 0 281474976710655 && ((tag.n : Int) == 16))) && ((body.n : Int) == 12))) ∧ Below w.heap.size w w' := by
 obtain ⟨x0, hx0⟩ : ∃ x0, w.alloc (.cells #[.slice sn.a sn.n sn.c, .int .i64 epoch, .int .i64 seq, .slice tag.a tag.n tag.c, .slice body.a body.n body.c] 125) = x0 := ⟨_, rfl⟩
 have HW0 := hid (hx0)
 have B0 : Hid (Below w.heap.size w x0) := by rw [← hx0]; exact (Below.refl _ _).alloc (Nat.le_refl _) _
 have K0 : Hid (Blk x0 w.heap.size 125 [.slice sn.a sn.n sn.c, .int .i64 epoch, .int .i64 seq, .slice tag.a tag.n tag.c, .slice body.a body.n body.c]) := by rw [← hx0]; exact Blk.new w _ _
 clear hx0
 go_enter Tryz.func150, Tryz.ntmps150
 go_wp2_with fail
 rw [HW0.out]
 generalize hga : w.heap.size = ga at K0 ⊢
 obtain ⟨c0, c1, c2, c3, c4⟩ := cells5 K0.out
 refine (partsRight sn epoch seq tag body x0).mono ?_
 rintro e x1 ⟨rfl, b1⟩
 have B1 := hid (B0.out.trans (b1.mono B0.out.size))
 have K1 := hid (K0.out.later b1)
 clear b1 c0 c1 c2 c3 c4
 obtain ⟨c0, c1, c2, c3, c4⟩ := cells5 K1.out
 cases h0 : (((sn.n : Int) == 12) && (isIn epoch 0 4294967295 && (isIn seq 0 281474976710655 && ((tag.n : Int) == 16)))) with
 | false =>
  go_wp2
  go_ret
  exact ⟨by rw [h0]; simp, hga ▸ B1.out⟩
 | true =>
  go_wp2_with fail
  refine (isNonce body.a body.n body.c x1).mono ?_
  rintro e y ⟨rfl, rfl⟩
  go_wp2
  go_ret
  exact ⟨by rw [h0]; simp, hga ▸ B1.out⟩

set_option maxHeartbeats 1600000 in
theorem respRight (sn : Sl) (epoch seq : Int) (tag body : Sl) (w : World) :
  Calls Tryz.prog 152 #[.agg #[.slice sn.a sn.n sn.c, .int .i64 epoch, .int .i64 seq, .slice tag.a tag.n tag.c, .slice body.a body.n body.c]] w fun e w' => e = .returned (.bool (((sn.n : Int) == 12) && (isIn epoch 0 4294967295 && (isIn seq 0 281474976710655 && ((tag.n : Int) == 16))) && ((body.n : Int) == 12))) ∧ Below w.heap.size w w' := by
 obtain ⟨x0, hx0⟩ : ∃ x0, w.alloc (.cells #[.slice sn.a sn.n sn.c, .int .i64 epoch, .int .i64 seq, .slice tag.a tag.n tag.c, .slice body.a body.n body.c] 126) = x0 := ⟨_, rfl⟩
 have HW0 := hid (hx0)
 have B0 : Hid (Below w.heap.size w x0) := by rw [← hx0]; exact (Below.refl _ _).alloc (Nat.le_refl _) _
 have K0 : Hid (Blk x0 w.heap.size 126 [.slice sn.a sn.n sn.c, .int .i64 epoch, .int .i64 seq, .slice tag.a tag.n tag.c, .slice body.a body.n body.c]) := by rw [← hx0]; exact Blk.new w _ _
 clear hx0
 go_enter Tryz.func152, Tryz.ntmps152
 go_wp2_with fail
 rw [HW0.out]
 generalize hga : w.heap.size = ga at K0 ⊢
 obtain ⟨c0, c1, c2, c3, c4⟩ := cells5 K0.out
 refine (partsRight sn epoch seq tag body x0).mono ?_
 rintro e x1 ⟨rfl, b1⟩
 have B1 := hid (B0.out.trans (b1.mono B0.out.size))
 have K1 := hid (K0.out.later b1)
 clear b1 c0 c1 c2 c3 c4
 obtain ⟨c0, c1, c2, c3, c4⟩ := cells5 K1.out
 cases h0 : (((sn.n : Int) == 12) && (isIn epoch 0 4294967295 && (isIn seq 0 281474976710655 && ((tag.n : Int) == 16)))) with
 | false =>
  go_wp2
  go_ret
  exact ⟨by rw [h0]; simp, hga ▸ B1.out⟩
 | true =>
  go_wp2_with fail
  refine (isNonce body.a body.n body.c x1).mono ?_
  rintro e y ⟨rfl, rfl⟩
  go_wp2
  go_ret
  exact ⟨by rw [h0]; simp, hga ▸ B1.out⟩

set_option maxHeartbeats 1600000 in
theorem rekRight (sn : Sl) (epoch seq : Int) (tag body : Sl) (w : World) :
  Calls Tryz.prog 154 #[.agg #[.slice sn.a sn.n sn.c, .int .i64 epoch, .int .i64 seq, .slice tag.a tag.n tag.c, .slice body.a body.n body.c]] w fun e w' => e = .returned (.bool (((sn.n : Int) == 12) && (isIn epoch 0 4294967295 && (isIn seq 0 281474976710655 && ((tag.n : Int) == 16))) && ((body.n : Int) == 4))) ∧ Below w.heap.size w w' := by
 obtain ⟨x0, hx0⟩ : ∃ x0, w.alloc (.cells #[.slice sn.a sn.n sn.c, .int .i64 epoch, .int .i64 seq, .slice tag.a tag.n tag.c, .slice body.a body.n body.c] 127) = x0 := ⟨_, rfl⟩
 have HW0 := hid (hx0)
 have B0 : Hid (Below w.heap.size w x0) := by rw [← hx0]; exact (Below.refl _ _).alloc (Nat.le_refl _) _
 have K0 : Hid (Blk x0 w.heap.size 127 [.slice sn.a sn.n sn.c, .int .i64 epoch, .int .i64 seq, .slice tag.a tag.n tag.c, .slice body.a body.n body.c]) := by rw [← hx0]; exact Blk.new w _ _
 clear hx0
 go_enter Tryz.func154, Tryz.ntmps154
 go_wp2_with fail
 rw [HW0.out]
 generalize hga : w.heap.size = ga at K0 ⊢
 obtain ⟨c0, c1, c2, c3, c4⟩ := cells5 K0.out
 refine (partsRight sn epoch seq tag body x0).mono ?_
 rintro e x1 ⟨rfl, b1⟩
 have B1 := hid (B0.out.trans (b1.mono B0.out.size))
 have K1 := hid (K0.out.later b1)
 clear b1 c0 c1 c2 c3 c4
 obtain ⟨c0, c1, c2, c3, c4⟩ := cells5 K1.out
 cases h0 : (((sn.n : Int) == 12) && (isIn epoch 0 4294967295 && (isIn seq 0 281474976710655 && ((tag.n : Int) == 16)))) with
 | false =>
  go_wp2
  go_ret
  exact ⟨by rw [h0]; simp, hga ▸ B1.out⟩
 | true =>
  go_wp2
  go_ret
  exact ⟨by rw [h0]; simp, hga ▸ B1.out⟩

set_option maxHeartbeats 1600000 in
theorem ackRight (sn : Sl) (epoch seq : Int) (tag body : Sl) (w : World) :
  Calls Tryz.prog 156 #[.agg #[.slice sn.a sn.n sn.c, .int .i64 epoch, .int .i64 seq, .slice tag.a tag.n tag.c, .slice body.a body.n body.c]] w fun e w' => e = .returned (.bool (((sn.n : Int) == 12) && (isIn epoch 0 4294967295 && (isIn seq 0 281474976710655 && ((tag.n : Int) == 16))) && ((body.n : Int) == 4))) ∧ Below w.heap.size w w' := by
 obtain ⟨x0, hx0⟩ : ∃ x0, w.alloc (.cells #[.slice sn.a sn.n sn.c, .int .i64 epoch, .int .i64 seq, .slice tag.a tag.n tag.c, .slice body.a body.n body.c] 128) = x0 := ⟨_, rfl⟩
 have HW0 := hid (hx0)
 have B0 : Hid (Below w.heap.size w x0) := by rw [← hx0]; exact (Below.refl _ _).alloc (Nat.le_refl _) _
 have K0 : Hid (Blk x0 w.heap.size 128 [.slice sn.a sn.n sn.c, .int .i64 epoch, .int .i64 seq, .slice tag.a tag.n tag.c, .slice body.a body.n body.c]) := by rw [← hx0]; exact Blk.new w _ _
 clear hx0
 go_enter Tryz.func156, Tryz.ntmps156
 go_wp2_with fail
 rw [HW0.out]
 generalize hga : w.heap.size = ga at K0 ⊢
 obtain ⟨c0, c1, c2, c3, c4⟩ := cells5 K0.out
 refine (partsRight sn epoch seq tag body x0).mono ?_
 rintro e x1 ⟨rfl, b1⟩
 have B1 := hid (B0.out.trans (b1.mono B0.out.size))
 have K1 := hid (K0.out.later b1)
 clear b1 c0 c1 c2 c3 c4
 obtain ⟨c0, c1, c2, c3, c4⟩ := cells5 K1.out
 cases h0 : (((sn.n : Int) == 12) && (isIn epoch 0 4294967295 && (isIn seq 0 281474976710655 && ((tag.n : Int) == 16)))) with
 | false =>
  go_wp2
  go_ret
  exact ⟨by rw [h0]; simp, hga ▸ B1.out⟩
 | true =>
  go_wp2
  go_ret
  exact ⟨by rw [h0]; simp, hga ▸ B1.out⟩

end Go.Proofs.YtpgapjdejelajaaGreatDoor.FrW
