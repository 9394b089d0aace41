/-
  The words behind impl's interface: what each asks of its parts, and the frame that it is.
-/
import Derived.Test.YtmcflfpckpjphaaGreatDoorFrB
namespace Go.Proofs.YtmcflfpckpjphaaGreatDoor.FrW
open Go.RowKit Go.Proofs.YtmcflfpckpjphaaGreatDoor.Mem Go.Proofs.YtmcflfpckpjphaaGreatDoor.Blk Go.Proofs.YtmcflfpckpjphaaGreatDoor.Words Go.Proofs.YtmcflfpckpjphaaGreatDoor.Zone Go.Proofs.YtmcflfpckpjphaaGreatDoor.Res Go.Proofs.YtmcflfpckpjphaaGreatDoor.FrZ Go.Proofs.YtmcflfpckpjphaaGreatDoor.FrP

set_option maxRecDepth 100000 in
theorem geq_leq {x a b : Int} {p : Prop} [Decidable p] (h : p ↔ (a ≤ x ∧ x ≤ b)) : decide p = isIn x a b := by
  unfold isIn; simp only [h]

set_option maxRecDepth 100000 in
theorem isId (x : Int) (w : World) :
    Calls Tryz.prog 205 #[.int .i64 x] w fun e w' => e = .returned (.bool (isIn x 1 9)) ∧ w = w' := by
  by_cases h1 : x ≥ 1
  · by_cases h2 : x ≤ 9
    · have H : Hid (isIn x 1 9 = true) := isIn_yes ⟨h1, by omega⟩
      go_enter Tryz.func205, Tryz.ntmps205
      go_wp2
      go_ret
      exact ⟨by rw [H.out]; simp, rfl⟩
    · have H : Hid (isIn x 1 9 = false) := isIn_no (fun h => h2 (by omega))
      go_enter Tryz.func205, Tryz.ntmps205
      go_wp2
      go_ret
      exact ⟨by rw [H.out]; simp, rfl⟩
  · have H : Hid (isIn x 1 9 = false) := isIn_no (fun h => h1 h.1)
    go_enter Tryz.func205, Tryz.ntmps205
    go_wp2
    go_ret
    exact ⟨by rw [H.out]; simp, rfl⟩

set_option maxRecDepth 100000 in
theorem isTime (x : Int) (w : World) :
    Calls Tryz.prog 208 #[.int .i64 x] w fun e w' => e = .returned (.bool (isIn x 0 1000000)) ∧ w = w' := by
  by_cases h1 : x ≥ 0
  · by_cases h2 : x ≤ 1000000
    · have H : Hid (isIn x 0 1000000 = true) := isIn_yes ⟨h1, by omega⟩
      go_enter Tryz.func208, Tryz.ntmps208
      go_wp2
      go_ret
      exact ⟨by rw [H.out]; simp, rfl⟩
    · have H : Hid (isIn x 0 1000000 = false) := isIn_no (fun h => h2 (by omega))
      go_enter Tryz.func208, Tryz.ntmps208
      go_wp2
      go_ret
      exact ⟨by rw [H.out]; simp, rfl⟩
  · have H : Hid (isIn x 0 1000000 = false) := isIn_no (fun h => h1 h.1)
    go_enter Tryz.func208, Tryz.ntmps208
    go_wp2
    go_ret
    exact ⟨by rw [H.out]; simp, rfl⟩

set_option maxRecDepth 100000 in
theorem isEpoch (x : Int) (w : World) :
    Calls Tryz.prog 80 #[.int .i64 x] w fun e w' => e = .returned (.bool (isIn x 0 4294967295)) ∧ w = w' := by
  by_cases h1 : x ≥ 0
  · by_cases h2 : x ≤ 4294967295
    · have H : Hid (isIn x 0 4294967295 = true) := isIn_yes ⟨h1, by omega⟩
      go_enter Tryz.func80, Tryz.ntmps80
      go_wp2
      go_ret
      exact ⟨by rw [H.out]; simp, rfl⟩
    · have H : Hid (isIn x 0 4294967295 = false) := isIn_no (fun h => h2 (by omega))
      go_enter Tryz.func80, Tryz.ntmps80
      go_wp2
      go_ret
      exact ⟨by rw [H.out]; simp, rfl⟩
  · have H : Hid (isIn x 0 4294967295 = false) := isIn_no (fun h => h1 h.1)
    go_enter Tryz.func80, Tryz.ntmps80
    go_wp2
    go_ret
    exact ⟨by rw [H.out]; simp, rfl⟩

set_option maxRecDepth 100000 in
theorem isSeq (x : Int) (w : World) :
    Calls Tryz.prog 127 #[.int .i64 x] w fun e w' => e = .returned (.bool (isIn x 0 281474976710655)) ∧ w = w' := by
  by_cases h1 : x ≥ 0
  · by_cases h2 : x < 281474976710656
    · have H : Hid (isIn x 0 281474976710655 = true) := isIn_yes ⟨h1, by omega⟩
      go_enter Tryz.func127, Tryz.ntmps127
      go_wp2
      go_ret
      exact ⟨by rw [H.out]; simp, rfl⟩
    · have H : Hid (isIn x 0 281474976710655 = false) := isIn_no (fun h => h2 (by omega))
      go_enter Tryz.func127, Tryz.ntmps127
      go_wp2
      go_ret
      exact ⟨by rw [H.out]; simp, rfl⟩
  · have H : Hid (isIn x 0 281474976710655 = false) := isIn_no (fun h => h1 h.1)
    go_enter Tryz.func127, Tryz.ntmps127
    go_wp2
    go_ret
    exact ⟨by rw [H.out]; simp, rfl⟩

set_option maxRecDepth 100000 in
theorem isNonce (a : Option Addr) (n c : Nat) (w : World) :
    Calls Tryz.prog 142 #[.slice a n c] w fun e w' => e = .returned (.bool ((n : Int) == 12)) ∧ w = w' := by
  go_enter Tryz.func142, Tryz.ntmps142
  go_wp2
  go_ret
  exact ⟨by simp, rfl⟩

set_option maxRecDepth 100000 in
theorem isTag (a : Option Addr) (n c : Nat) (w : World) :
    Calls Tryz.prog 209 #[.slice a n c] w fun e w' => e = .returned (.bool ((n : Int) == 16)) ∧ w = w' := by
  go_enter Tryz.func209, Tryz.ntmps209
  go_wp2
  go_ret
  exact ⟨by simp, rfl⟩

set_option maxRecDepth 100000 in
set_option maxHeartbeats 1600000 in
theorem initRight (id : Int) (cn : Sl) (w : World) :
    Calls Tryz.prog 204 #[.agg #[.int .i64 id, .slice cn.a cn.n cn.c]] w fun e w' => e = .returned (.bool (isIn id 1 9 && ((cn.n : Int) == 12))) ∧ Below w.heap.size w w' := by
  obtain ⟨x0, hx0⟩ : ∃ x0, w.alloc (.cells #[.int .i64 id, .slice cn.a cn.n cn.c] 122) = x0 := ⟨_, rfl⟩
  have HW0 : Hid (w.alloc (.cells #[.int .i64 id, .slice cn.a cn.n cn.c] 122) = x0) := hx0
  have B0 : Hid (Below w.heap.size w x0) := by rw [← hx0]; exact (Below.refl _ _).alloc (Nat.le_refl _) _
  have K0 : Hid (Blk x0 w.heap.size 122 [.int .i64 id, .slice cn.a cn.n cn.c]) := by rw [← hx0]; exact Blk.new w _ _
  clear hx0
  go_enter Tryz.func204, Tryz.ntmps204
  go_wp2_with fail
  rw [HW0.out]
  generalize hga : w.heap.size = ga at K0 ⊢
  have c0 := K0.out.cell 0 rfl
  have c1 := K0.out.cell 1 rfl
  refine (isId id x0).mono ?_
  rintro e y ⟨rfl, rfl⟩
  cases h0 : (isIn id 1 9) with
  | false =>
    go_wp2
    go_ret
    exact ⟨by rw [h0]; simp, hga ▸ B0.out⟩
  | true =>
    go_wp2_with fail
    refine (isNonce cn.a cn.n cn.c x0).mono ?_
    rintro e y ⟨rfl, rfl⟩
    go_wp2
    go_ret
    exact ⟨by rw [h0]; simp, hga ▸ B0.out⟩

set_option maxRecDepth 100000 in
set_option maxHeartbeats 1600000 in
theorem cookRight (cn sn : Sl) (tick : Int) (cookie : Sl) (w : World) :
    Calls Tryz.prog 207 #[.agg #[.slice cn.a cn.n cn.c, .slice sn.a sn.n sn.c, .int .i64 tick, .slice cookie.a cookie.n cookie.c]] w fun e w' => e = .returned (.bool ((cn.n : Int) == 12 && ((sn.n : Int) == 12 && (isIn tick 0 1000000 && ((cookie.n : Int) == 16))))) ∧ Below w.heap.size w w' := by
  obtain ⟨x0, hx0⟩ : ∃ x0, w.alloc (.cells #[.slice cn.a cn.n cn.c, .slice sn.a sn.n sn.c, .int .i64 tick, .slice cookie.a cookie.n cookie.c] 124) = x0 := ⟨_, rfl⟩
  have HW0 : Hid (w.alloc (.cells #[.slice cn.a cn.n cn.c, .slice sn.a sn.n sn.c, .int .i64 tick, .slice cookie.a cookie.n cookie.c] 124) = x0) := hx0
  have B0 : Hid (Below w.heap.size w x0) := by rw [← hx0]; exact (Below.refl _ _).alloc (Nat.le_refl _) _
  have K0 : Hid (Blk x0 w.heap.size 124 [.slice cn.a cn.n cn.c, .slice sn.a sn.n sn.c, .int .i64 tick, .slice cookie.a cookie.n cookie.c]) := by rw [← hx0]; exact Blk.new w _ _
  clear hx0
  go_enter Tryz.func207, Tryz.ntmps207
  go_wp2_with fail
  rw [HW0.out]
  generalize hga : w.heap.size = ga at K0 ⊢
  have c0 := K0.out.cell 0 rfl
  have c1 := K0.out.cell 1 rfl
  have c2 := K0.out.cell 2 rfl
  have c3 := K0.out.cell 3 rfl
  refine (isNonce cn.a cn.n cn.c x0).mono ?_
  rintro e y ⟨rfl, rfl⟩
  cases h0 : ((cn.n : Int) == 12) with
  | false =>
    go_wp2
    go_ret
    exact ⟨by rw [h0]; simp, hga ▸ B0.out⟩
  | true =>
    go_wp2_with fail
    refine (isNonce sn.a sn.n sn.c x0).mono ?_
    rintro e y ⟨rfl, rfl⟩
    cases h1 : ((sn.n : Int) == 12) with
    | false =>
      go_wp2
      go_ret
      exact ⟨by rw [h0, h1]; simp, hga ▸ B0.out⟩
    | true =>
      go_wp2_with fail
      refine (isTime tick x0).mono ?_
      rintro e y ⟨rfl, rfl⟩
      cases h2 : (isIn tick 0 1000000) with
      | false =>
        go_wp2
        go_ret
        exact ⟨by rw [h0, h1, h2]; simp, hga ▸ B0.out⟩
      | true =>
        go_wp2_with fail
        refine (isTag cookie.a cookie.n cookie.c x0).mono ?_
        rintro e y ⟨rfl, rfl⟩
        go_wp2
        go_ret
        exact ⟨by rw [h0, h1, h2]; simp, hga ▸ B0.out⟩

set_option maxRecDepth 100000 in
set_option maxHeartbeats 1600000 in
theorem finRight (id : Int) (cn sn : Sl) (tick : Int) (cookie proof : Sl) (w : World) :
    Calls Tryz.prog 211 #[.agg #[.int .i64 id, .slice cn.a cn.n cn.c, .slice sn.a sn.n sn.c, .int .i64 tick, .slice cookie.a cookie.n cookie.c, .slice proof.a proof.n proof.c]] w fun e w' => e = .returned (.bool (isIn id 1 9 && (((cn.n : Int) == 12) && (((sn.n : Int) == 12) && (isIn tick 0 1000000 && ((cookie.n : Int) == 16))) && ((proof.n : Int) == 16)))) ∧ Below w.heap.size w w' := by
  obtain ⟨x0, hx0⟩ : ∃ x0, w.alloc (.cells #[.int .i64 id, .slice cn.a cn.n cn.c, .slice sn.a sn.n sn.c, .int .i64 tick, .slice cookie.a cookie.n cookie.c, .slice proof.a proof.n proof.c] 127) = x0 := ⟨_, rfl⟩
  have HW0 : Hid (w.alloc (.cells #[.int .i64 id, .slice cn.a cn.n cn.c, .slice sn.a sn.n sn.c, .int .i64 tick, .slice cookie.a cookie.n cookie.c, .slice proof.a proof.n proof.c] 127) = x0) := hx0
  have B0 : Hid (Below w.heap.size w x0) := by rw [← hx0]; exact (Below.refl _ _).alloc (Nat.le_refl _) _
  have K0 : Hid (Blk x0 w.heap.size 127 [.int .i64 id, .slice cn.a cn.n cn.c, .slice sn.a sn.n sn.c, .int .i64 tick, .slice cookie.a cookie.n cookie.c, .slice proof.a proof.n proof.c]) := by rw [← hx0]; exact Blk.new w _ _
  clear hx0
  go_enter Tryz.func211, Tryz.ntmps211
  go_wp2_with fail
  rw [HW0.out]
  generalize hga : w.heap.size = ga at K0 ⊢
  have c0 := K0.out.cell 0 rfl
  have c1 := K0.out.cell 1 rfl
  have c2 := K0.out.cell 2 rfl
  have c3 := K0.out.cell 3 rfl
  have c4 := K0.out.cell 4 rfl
  have c5 := K0.out.cell 5 rfl
  refine (isId id x0).mono ?_
  rintro e y ⟨rfl, rfl⟩
  cases h0 : (isIn id 1 9) with
  | false =>
    go_wp2
    go_ret
    exact ⟨by rw [h0]; simp, hga ▸ B0.out⟩
  | true =>
    go_wp2_with fail
    refine (cookRight cn sn tick cookie x0).mono ?_
    rintro e x1 ⟨rfl, b1⟩
    have B1 : Hid (Below w.heap.size w x1) := B0.out.trans (b1.mono B0.out.size)
    have K1 : Hid (Blk x1 ga 127 [.int .i64 id, .slice cn.a cn.n cn.c, .slice sn.a sn.n sn.c, .int .i64 tick, .slice cookie.a cookie.n cookie.c, .slice proof.a proof.n proof.c]) := K0.out.later b1
    clear b1 c0 c1 c2 c3 c4 c5
    have c0 := K1.out.cell 0 rfl
    have c1 := K1.out.cell 1 rfl
    have c2 := K1.out.cell 2 rfl
    have c3 := K1.out.cell 3 rfl
    have c4 := K1.out.cell 4 rfl
    have c5 := K1.out.cell 5 rfl
    cases h1 : (((cn.n : Int) == 12) && (((sn.n : Int) == 12) && (isIn tick 0 1000000 && ((cookie.n : Int) == 16)))) with
    | false =>
      go_wp2
      go_ret
      exact ⟨by rw [h0, h1]; simp, hga ▸ B1.out⟩
    | true =>
      go_wp2_with fail
      refine (isTag proof.a proof.n proof.c x1).mono ?_
      rintro e y ⟨rfl, rfl⟩
      go_wp2
      go_ret
      exact ⟨by rw [h0, h1]; simp, hga ▸ B1.out⟩

set_option maxRecDepth 100000 in
set_option maxHeartbeats 1600000 in
theorem partsRight (sn : Sl) (epoch seq : Int) (tag body : Sl) (w : World) :
    Calls Tryz.prog 213 #[.agg #[.slice sn.a sn.n sn.c, .int .i64 epoch, .int .i64 seq, .slice tag.a tag.n tag.c, .slice body.a body.n body.c]] w fun e w' => e = .returned (.bool ((sn.n : Int) == 12 && (isIn epoch 0 4294967295 && (isIn seq 0 281474976710655 && ((tag.n : Int) == 16))))) ∧ Below w.heap.size w w' := by
  obtain ⟨x0, hx0⟩ : ∃ x0, w.alloc (.cells #[.slice sn.a sn.n sn.c, .int .i64 epoch, .int .i64 seq, .slice tag.a tag.n tag.c, .slice body.a body.n body.c] 129) = x0 := ⟨_, rfl⟩
  have HW0 : Hid (w.alloc (.cells #[.slice sn.a sn.n sn.c, .int .i64 epoch, .int .i64 seq, .slice tag.a tag.n tag.c, .slice body.a body.n body.c] 129) = x0) := hx0
  have B0 : Hid (Below w.heap.size w x0) := by rw [← hx0]; exact (Below.refl _ _).alloc (Nat.le_refl _) _
  have K0 : Hid (Blk x0 w.heap.size 129 [.slice sn.a sn.n sn.c, .int .i64 epoch, .int .i64 seq, .slice tag.a tag.n tag.c, .slice body.a body.n body.c]) := by rw [← hx0]; exact Blk.new w _ _
  clear hx0
  go_enter Tryz.func213, Tryz.ntmps213
  go_wp2_with fail
  rw [HW0.out]
  generalize hga : w.heap.size = ga at K0 ⊢
  have c0 := K0.out.cell 0 rfl
  have c1 := K0.out.cell 1 rfl
  have c2 := K0.out.cell 2 rfl
  have c3 := K0.out.cell 3 rfl
  have c4 := K0.out.cell 4 rfl
  refine (isNonce sn.a sn.n sn.c x0).mono ?_
  rintro e y ⟨rfl, rfl⟩
  cases h0 : ((sn.n : Int) == 12) with
  | false =>
    go_wp2
    go_ret
    exact ⟨by rw [h0]; simp, hga ▸ B0.out⟩
  | true =>
    go_wp2_with fail
    refine (isEpoch epoch x0).mono ?_
    rintro e y ⟨rfl, rfl⟩
    cases h1 : (isIn epoch 0 4294967295) with
    | false =>
      go_wp2
      go_ret
      exact ⟨by rw [h0, h1]; simp, hga ▸ B0.out⟩
    | true =>
      go_wp2_with fail
      refine (isSeq seq x0).mono ?_
      rintro e y ⟨rfl, rfl⟩
      cases h2 : (isIn seq 0 281474976710655) with
      | false =>
        go_wp2
        go_ret
        exact ⟨by rw [h0, h1, h2]; simp, hga ▸ B0.out⟩
      | true =>
        go_wp2_with fail
        refine (isTag tag.a tag.n tag.c x0).mono ?_
        rintro e y ⟨rfl, rfl⟩
        go_wp2
        go_ret
        exact ⟨by rw [h0, h1, h2]; simp, hga ▸ B0.out⟩

set_option maxRecDepth 100000 in
set_option maxHeartbeats 1600000 in
theorem dataRight (sn : Sl) (epoch seq : Int) (tag body : Sl) (w : World) :
    Calls Tryz.prog 215 #[.agg #[.slice sn.a sn.n sn.c, .int .i64 epoch, .int .i64 seq, .slice tag.a tag.n tag.c, .slice body.a body.n body.c]] w fun e w' => e = .returned (.bool (((sn.n : Int) == 12) && (isIn epoch 0 4294967295 && (isIn seq 0 281474976710655 && ((tag.n : Int) == 16))) && (decide ((body.n : Int) ≤ 40)))) ∧ Below w.heap.size w w' := by
  obtain ⟨x0, hx0⟩ : ∃ x0, w.alloc (.cells #[.slice sn.a sn.n sn.c, .int .i64 epoch, .int .i64 seq, .slice tag.a tag.n tag.c, .slice body.a body.n body.c] 132) = x0 := ⟨_, rfl⟩
  have HW0 : Hid (w.alloc (.cells #[.slice sn.a sn.n sn.c, .int .i64 epoch, .int .i64 seq, .slice tag.a tag.n tag.c, .slice body.a body.n body.c] 132) = x0) := hx0
  have B0 : Hid (Below w.heap.size w x0) := by rw [← hx0]; exact (Below.refl _ _).alloc (Nat.le_refl _) _
  have K0 : Hid (Blk x0 w.heap.size 132 [.slice sn.a sn.n sn.c, .int .i64 epoch, .int .i64 seq, .slice tag.a tag.n tag.c, .slice body.a body.n body.c]) := by rw [← hx0]; exact Blk.new w _ _
  clear hx0
  go_enter Tryz.func215, Tryz.ntmps215
  go_wp2_with fail
  rw [HW0.out]
  generalize hga : w.heap.size = ga at K0 ⊢
  have c0 := K0.out.cell 0 rfl
  have c1 := K0.out.cell 1 rfl
  have c2 := K0.out.cell 2 rfl
  have c3 := K0.out.cell 3 rfl
  have c4 := K0.out.cell 4 rfl
  refine (partsRight sn epoch seq tag body x0).mono ?_
  rintro e x1 ⟨rfl, b1⟩
  have B1 : Hid (Below w.heap.size w x1) := B0.out.trans (b1.mono B0.out.size)
  have K1 : Hid (Blk x1 ga 132 [.slice sn.a sn.n sn.c, .int .i64 epoch, .int .i64 seq, .slice tag.a tag.n tag.c, .slice body.a body.n body.c]) := K0.out.later b1
  clear b1 c0 c1 c2 c3 c4
  have c0 := K1.out.cell 0 rfl
  have c1 := K1.out.cell 1 rfl
  have c2 := K1.out.cell 2 rfl
  have c3 := K1.out.cell 3 rfl
  have c4 := K1.out.cell 4 rfl
  cases h0 : (((sn.n : Int) == 12) && (isIn epoch 0 4294967295 && (isIn seq 0 281474976710655 && ((tag.n : Int) == 16)))) with
  | false =>
    go_wp2
    go_ret
    exact ⟨by rw [h0]; simp, hga ▸ B1.out⟩
  | true =>
    go_wp2
    go_ret
    exact ⟨by rw [h0]; simp, hga ▸ B1.out⟩

set_option maxRecDepth 100000 in
set_option maxHeartbeats 1600000 in
theorem chalRight (sn : Sl) (epoch seq : Int) (tag body : Sl) (w : World) :
    Calls Tryz.prog 217 #[.agg #[.slice sn.a sn.n sn.c, .int .i64 epoch, .int .i64 seq, .slice tag.a tag.n tag.c, .slice body.a body.n body.c]] w fun e w' => e = .returned (.bool (((sn.n : Int) == 12) && (isIn epoch 0 4294967295 && (isIn seq 0 281474976710655 && ((tag.n : Int) == 16))) && ((body.n : Int) == 12))) ∧ Below w.heap.size w w' := by
  obtain ⟨x0, hx0⟩ : ∃ x0, w.alloc (.cells #[.slice sn.a sn.n sn.c, .int .i64 epoch, .int .i64 seq, .slice tag.a tag.n tag.c, .slice body.a body.n body.c] 133) = x0 := ⟨_, rfl⟩
  have HW0 : Hid (w.alloc (.cells #[.slice sn.a sn.n sn.c, .int .i64 epoch, .int .i64 seq, .slice tag.a tag.n tag.c, .slice body.a body.n body.c] 133) = x0) := hx0
  have B0 : Hid (Below w.heap.size w x0) := by rw [← hx0]; exact (Below.refl _ _).alloc (Nat.le_refl _) _
  have K0 : Hid (Blk x0 w.heap.size 133 [.slice sn.a sn.n sn.c, .int .i64 epoch, .int .i64 seq, .slice tag.a tag.n tag.c, .slice body.a body.n body.c]) := by rw [← hx0]; exact Blk.new w _ _
  clear hx0
  go_enter Tryz.func217, Tryz.ntmps217
  go_wp2_with fail
  rw [HW0.out]
  generalize hga : w.heap.size = ga at K0 ⊢
  have c0 := K0.out.cell 0 rfl
  have c1 := K0.out.cell 1 rfl
  have c2 := K0.out.cell 2 rfl
  have c3 := K0.out.cell 3 rfl
  have c4 := K0.out.cell 4 rfl
  refine (partsRight sn epoch seq tag body x0).mono ?_
  rintro e x1 ⟨rfl, b1⟩
  have B1 : Hid (Below w.heap.size w x1) := B0.out.trans (b1.mono B0.out.size)
  have K1 : Hid (Blk x1 ga 133 [.slice sn.a sn.n sn.c, .int .i64 epoch, .int .i64 seq, .slice tag.a tag.n tag.c, .slice body.a body.n body.c]) := K0.out.later b1
  clear b1 c0 c1 c2 c3 c4
  have c0 := K1.out.cell 0 rfl
  have c1 := K1.out.cell 1 rfl
  have c2 := K1.out.cell 2 rfl
  have c3 := K1.out.cell 3 rfl
  have c4 := K1.out.cell 4 rfl
  cases h0 : (((sn.n : Int) == 12) && (isIn epoch 0 4294967295 && (isIn seq 0 281474976710655 && ((tag.n : Int) == 16)))) with
  | false =>
    go_wp2
    go_ret
    exact ⟨by rw [h0]; simp, hga ▸ B1.out⟩
  | true =>
    go_wp2_with fail
    refine (isNonce body.a body.n body.c x1).mono ?_
    rintro e y ⟨rfl, rfl⟩
    go_wp2
    go_ret
    exact ⟨by rw [h0]; simp, hga ▸ B1.out⟩

set_option maxRecDepth 100000 in
set_option maxHeartbeats 1600000 in
theorem respRight (sn : Sl) (epoch seq : Int) (tag body : Sl) (w : World) :
    Calls Tryz.prog 219 #[.agg #[.slice sn.a sn.n sn.c, .int .i64 epoch, .int .i64 seq, .slice tag.a tag.n tag.c, .slice body.a body.n body.c]] w fun e w' => e = .returned (.bool (((sn.n : Int) == 12) && (isIn epoch 0 4294967295 && (isIn seq 0 281474976710655 && ((tag.n : Int) == 16))) && ((body.n : Int) == 12))) ∧ Below w.heap.size w w' := by
  obtain ⟨x0, hx0⟩ : ∃ x0, w.alloc (.cells #[.slice sn.a sn.n sn.c, .int .i64 epoch, .int .i64 seq, .slice tag.a tag.n tag.c, .slice body.a body.n body.c] 134) = x0 := ⟨_, rfl⟩
  have HW0 : Hid (w.alloc (.cells #[.slice sn.a sn.n sn.c, .int .i64 epoch, .int .i64 seq, .slice tag.a tag.n tag.c, .slice body.a body.n body.c] 134) = x0) := hx0
  have B0 : Hid (Below w.heap.size w x0) := by rw [← hx0]; exact (Below.refl _ _).alloc (Nat.le_refl _) _
  have K0 : Hid (Blk x0 w.heap.size 134 [.slice sn.a sn.n sn.c, .int .i64 epoch, .int .i64 seq, .slice tag.a tag.n tag.c, .slice body.a body.n body.c]) := by rw [← hx0]; exact Blk.new w _ _
  clear hx0
  go_enter Tryz.func219, Tryz.ntmps219
  go_wp2_with fail
  rw [HW0.out]
  generalize hga : w.heap.size = ga at K0 ⊢
  have c0 := K0.out.cell 0 rfl
  have c1 := K0.out.cell 1 rfl
  have c2 := K0.out.cell 2 rfl
  have c3 := K0.out.cell 3 rfl
  have c4 := K0.out.cell 4 rfl
  refine (partsRight sn epoch seq tag body x0).mono ?_
  rintro e x1 ⟨rfl, b1⟩
  have B1 : Hid (Below w.heap.size w x1) := B0.out.trans (b1.mono B0.out.size)
  have K1 : Hid (Blk x1 ga 134 [.slice sn.a sn.n sn.c, .int .i64 epoch, .int .i64 seq, .slice tag.a tag.n tag.c, .slice body.a body.n body.c]) := K0.out.later b1
  clear b1 c0 c1 c2 c3 c4
  have c0 := K1.out.cell 0 rfl
  have c1 := K1.out.cell 1 rfl
  have c2 := K1.out.cell 2 rfl
  have c3 := K1.out.cell 3 rfl
  have c4 := K1.out.cell 4 rfl
  cases h0 : (((sn.n : Int) == 12) && (isIn epoch 0 4294967295 && (isIn seq 0 281474976710655 && ((tag.n : Int) == 16)))) with
  | false =>
    go_wp2
    go_ret
    exact ⟨by rw [h0]; simp, hga ▸ B1.out⟩
  | true =>
    go_wp2_with fail
    refine (isNonce body.a body.n body.c x1).mono ?_
    rintro e y ⟨rfl, rfl⟩
    go_wp2
    go_ret
    exact ⟨by rw [h0]; simp, hga ▸ B1.out⟩

set_option maxRecDepth 100000 in
set_option maxHeartbeats 1600000 in
theorem rekRight (sn : Sl) (epoch seq : Int) (tag body : Sl) (w : World) :
    Calls Tryz.prog 221 #[.agg #[.slice sn.a sn.n sn.c, .int .i64 epoch, .int .i64 seq, .slice tag.a tag.n tag.c, .slice body.a body.n body.c]] w fun e w' => e = .returned (.bool (((sn.n : Int) == 12) && (isIn epoch 0 4294967295 && (isIn seq 0 281474976710655 && ((tag.n : Int) == 16))) && ((body.n : Int) == 4))) ∧ Below w.heap.size w w' := by
  obtain ⟨x0, hx0⟩ : ∃ x0, w.alloc (.cells #[.slice sn.a sn.n sn.c, .int .i64 epoch, .int .i64 seq, .slice tag.a tag.n tag.c, .slice body.a body.n body.c] 135) = x0 := ⟨_, rfl⟩
  have HW0 : Hid (w.alloc (.cells #[.slice sn.a sn.n sn.c, .int .i64 epoch, .int .i64 seq, .slice tag.a tag.n tag.c, .slice body.a body.n body.c] 135) = x0) := hx0
  have B0 : Hid (Below w.heap.size w x0) := by rw [← hx0]; exact (Below.refl _ _).alloc (Nat.le_refl _) _
  have K0 : Hid (Blk x0 w.heap.size 135 [.slice sn.a sn.n sn.c, .int .i64 epoch, .int .i64 seq, .slice tag.a tag.n tag.c, .slice body.a body.n body.c]) := by rw [← hx0]; exact Blk.new w _ _
  clear hx0
  go_enter Tryz.func221, Tryz.ntmps221
  go_wp2_with fail
  rw [HW0.out]
  generalize hga : w.heap.size = ga at K0 ⊢
  have c0 := K0.out.cell 0 rfl
  have c1 := K0.out.cell 1 rfl
  have c2 := K0.out.cell 2 rfl
  have c3 := K0.out.cell 3 rfl
  have c4 := K0.out.cell 4 rfl
  refine (partsRight sn epoch seq tag body x0).mono ?_
  rintro e x1 ⟨rfl, b1⟩
  have B1 : Hid (Below w.heap.size w x1) := B0.out.trans (b1.mono B0.out.size)
  have K1 : Hid (Blk x1 ga 135 [.slice sn.a sn.n sn.c, .int .i64 epoch, .int .i64 seq, .slice tag.a tag.n tag.c, .slice body.a body.n body.c]) := K0.out.later b1
  clear b1 c0 c1 c2 c3 c4
  have c0 := K1.out.cell 0 rfl
  have c1 := K1.out.cell 1 rfl
  have c2 := K1.out.cell 2 rfl
  have c3 := K1.out.cell 3 rfl
  have c4 := K1.out.cell 4 rfl
  cases h0 : (((sn.n : Int) == 12) && (isIn epoch 0 4294967295 && (isIn seq 0 281474976710655 && ((tag.n : Int) == 16)))) with
  | false =>
    go_wp2
    go_ret
    exact ⟨by rw [h0]; simp, hga ▸ B1.out⟩
  | true =>
    go_wp2
    go_ret
    exact ⟨by rw [h0]; simp, hga ▸ B1.out⟩

set_option maxRecDepth 100000 in
set_option maxHeartbeats 1600000 in
theorem ackRight (sn : Sl) (epoch seq : Int) (tag body : Sl) (w : World) :
    Calls Tryz.prog 223 #[.agg #[.slice sn.a sn.n sn.c, .int .i64 epoch, .int .i64 seq, .slice tag.a tag.n tag.c, .slice body.a body.n body.c]] w fun e w' => e = .returned (.bool (((sn.n : Int) == 12) && (isIn epoch 0 4294967295 && (isIn seq 0 281474976710655 && ((tag.n : Int) == 16))) && ((body.n : Int) == 4))) ∧ Below w.heap.size w w' := by
  obtain ⟨x0, hx0⟩ : ∃ x0, w.alloc (.cells #[.slice sn.a sn.n sn.c, .int .i64 epoch, .int .i64 seq, .slice tag.a tag.n tag.c, .slice body.a body.n body.c] 136) = x0 := ⟨_, rfl⟩
  have HW0 : Hid (w.alloc (.cells #[.slice sn.a sn.n sn.c, .int .i64 epoch, .int .i64 seq, .slice tag.a tag.n tag.c, .slice body.a body.n body.c] 136) = x0) := hx0
  have B0 : Hid (Below w.heap.size w x0) := by rw [← hx0]; exact (Below.refl _ _).alloc (Nat.le_refl _) _
  have K0 : Hid (Blk x0 w.heap.size 136 [.slice sn.a sn.n sn.c, .int .i64 epoch, .int .i64 seq, .slice tag.a tag.n tag.c, .slice body.a body.n body.c]) := by rw [← hx0]; exact Blk.new w _ _
  clear hx0
  go_enter Tryz.func223, Tryz.ntmps223
  go_wp2_with fail
  rw [HW0.out]
  generalize hga : w.heap.size = ga at K0 ⊢
  have c0 := K0.out.cell 0 rfl
  have c1 := K0.out.cell 1 rfl
  have c2 := K0.out.cell 2 rfl
  have c3 := K0.out.cell 3 rfl
  have c4 := K0.out.cell 4 rfl
  refine (partsRight sn epoch seq tag body x0).mono ?_
  rintro e x1 ⟨rfl, b1⟩
  have B1 : Hid (Below w.heap.size w x1) := B0.out.trans (b1.mono B0.out.size)
  have K1 : Hid (Blk x1 ga 136 [.slice sn.a sn.n sn.c, .int .i64 epoch, .int .i64 seq, .slice tag.a tag.n tag.c, .slice body.a body.n body.c]) := K0.out.later b1
  clear b1 c0 c1 c2 c3 c4
  have c0 := K1.out.cell 0 rfl
  have c1 := K1.out.cell 1 rfl
  have c2 := K1.out.cell 2 rfl
  have c3 := K1.out.cell 3 rfl
  have c4 := K1.out.cell 4 rfl
  cases h0 : (((sn.n : Int) == 12) && (isIn epoch 0 4294967295 && (isIn seq 0 281474976710655 && ((tag.n : Int) == 16)))) with
  | false =>
    go_wp2
    go_ret
    exact ⟨by rw [h0]; simp, hga ▸ B1.out⟩
  | true =>
    go_wp2
    go_ret
    exact ⟨by rw [h0]; simp, hga ▸ B1.out⟩

end Go.Proofs.YtmcflfpckpjphaaGreatDoor.FrW
