/-
  The words behind impl's interface: what each asks of its parts, and the frame that it is.
  A region that draws its order, told by what each of its operations leaves: each operation is shown once, from what those that it waits for have left; the last one, for which all wait, from what all have left.
  One operation of a region that draws its order: one that runs to its end; and 'append' of a slice onto an empty one without room: what was there stays as it was.
  One operation of a region that draws its order: a call of a Go function, by its contract.
  What impl's PskOk and ProofBody answer.
-/
import Derived.Test.YtpenhliaelhnoaaGreatDoorVaGz7
import Derived.Test.YtpenhliaelhnoaaGreatDoorVaGz2
import Derived.Deep.RegionLaw
import Derived.Deep.RegionLawGrows
import Derived.Laws.AppendOwnNone
import Derived.Deep.CutBlock
import Derived.Test.YtpenhliaelhnoaaGreatDoorVaGz3
import Derived.Test.YtpenhliaelhnoaaGreatDoorVaGz6
set_option linter.unusedVariables false
set_option maxRecDepth 100000
namespace Go.Proofs.YtpenhliaelhnoaaGreatDoor.FrW
open Go.RowKit Mem Blk Words Zone Res FrZ FrP

theorem isId (x : Int) (w : World) :
  Calls Tryz.prog 68 #[.int .i64 x] w fun e w' => e = .returned (.bool (isIn x 1 9)) ∧ w = w' := by
 by_cases h1 : x ≥ 1
 ·
  by_cases h2 : x ≤ 9
  ·
   have H : Hid (isIn x 1 9 = true) := isIn_yes ⟨h1, by omega⟩
   go_enter Tryz.func68, Tryz.ntmps68
   go_wp2
   go_ret
   exact ⟨by rw [H.out]; simp, rfl⟩
  ·
   have H : Hid (isIn x 1 9 = false) := isIn_no (fun h => h2 (by omega))
   go_enter Tryz.func68, Tryz.ntmps68
   go_wp2
   go_ret
   exact ⟨by rw [H.out]; simp, rfl⟩
 ·
  have H : Hid (isIn x 1 9 = false) := isIn_no (fun h => h1 h.1)
  go_enter Tryz.func68, Tryz.ntmps68
  go_wp2
  go_ret
  exact ⟨by rw [H.out]; simp, rfl⟩

theorem isTime (x : Int) (w : World) :
  Calls Tryz.prog 81 #[.int .i64 x] w fun e w' => e = .returned (.bool (isIn x 0 1000000)) ∧ w = w' := by
 by_cases h1 : x ≥ 0
 ·
  by_cases h2 : x ≤ 1000000
  ·
   have H : Hid (isIn x 0 1000000 = true) := isIn_yes ⟨h1, by omega⟩
   go_enter Tryz.func81, Tryz.ntmps81
   go_wp2
   go_ret
   exact ⟨by rw [H.out]; simp, rfl⟩
  ·
   have H : Hid (isIn x 0 1000000 = false) := isIn_no (fun h => h2 (by omega))
   go_enter Tryz.func81, Tryz.ntmps81
   go_wp2
   go_ret
   exact ⟨by rw [H.out]; simp, rfl⟩
 ·
  have H : Hid (isIn x 0 1000000 = false) := isIn_no (fun h => h1 h.1)
  go_enter Tryz.func81, Tryz.ntmps81
  go_wp2
  go_ret
  exact ⟨by rw [H.out]; simp, rfl⟩

theorem isEpoch (x : Int) (w : World) :
  Calls Tryz.prog 136 #[.int .i64 x] w fun e w' => e = .returned (.bool (isIn x 0 4294967295)) ∧ w = w' := by
 by_cases h1 : x ≥ 0
 ·
  by_cases h2 : x ≤ 4294967295
  ·
   have H : Hid (isIn x 0 4294967295 = true) := isIn_yes ⟨h1, by omega⟩
   go_enter Tryz.func136, Tryz.ntmps136
   go_wp2
   go_ret
   exact ⟨by rw [H.out]; simp, rfl⟩
  ·
   have H : Hid (isIn x 0 4294967295 = false) := isIn_no (fun h => h2 (by omega))
   go_enter Tryz.func136, Tryz.ntmps136
   go_wp2
   go_ret
   exact ⟨by rw [H.out]; simp, rfl⟩
 ·
  have H : Hid (isIn x 0 4294967295 = false) := isIn_no (fun h => h1 h.1)
  go_enter Tryz.func136, Tryz.ntmps136
  go_wp2
  go_ret
  exact ⟨by rw [H.out]; simp, rfl⟩

theorem isSeq (x : Int) (w : World) :
  Calls Tryz.prog 137 #[.int .i64 x] w fun e w' => e = .returned (.bool (isIn x 0 281474976710655)) ∧ w = w' := by
 by_cases h1 : x ≥ 0
 ·
  by_cases h2 : x < 281474976710656
  ·
   have H : Hid (isIn x 0 281474976710655 = true) := isIn_yes ⟨h1, by omega⟩
   go_enter Tryz.func137, Tryz.ntmps137
   go_wp2
   go_ret
   exact ⟨by rw [H.out]; simp, rfl⟩
  ·
   have H : Hid (isIn x 0 281474976710655 = false) := isIn_no (fun h => h2 (by omega))
   go_enter Tryz.func137, Tryz.ntmps137
   go_wp2
   go_ret
   exact ⟨by rw [H.out]; simp, rfl⟩
 ·
  have H : Hid (isIn x 0 281474976710655 = false) := isIn_no (fun h => h1 h.1)
  go_enter Tryz.func137, Tryz.ntmps137
  go_wp2
  go_ret
  exact ⟨by rw [H.out]; simp, rfl⟩

theorem isNonce (a : Option Addr) (n c : Nat) (w : World) :
  Calls Tryz.prog 80 #[.slice a n c] w fun e w' => e = .returned (.bool ((n : Int) == 12)) ∧ w = w' := by
 go_enter Tryz.func80, Tryz.ntmps80
 go_wp2
 go_ret
 exact ⟨by simp, rfl⟩

theorem isTag (a : Option Addr) (n c : Nat) (w : World) :
  Calls Tryz.prog 82 #[.slice a n c] w fun e w' => e = .returned (.bool ((n : Int) == 16)) ∧ w = w' := by
 go_enter Tryz.func82, Tryz.ntmps82
 go_wp2
 go_ret
 exact ⟨by simp, rfl⟩

set_option maxHeartbeats 1600000 in
theorem initRight (id : Int) (cn : Sl) (w : World) :
  Calls Tryz.prog 133 #[.agg #[.int .i64 id, .slice cn.a cn.n cn.c]] w fun e w' => e = .returned (.bool (isIn id 1 9 && ((cn.n : Int) == 12))) ∧ Below w.heap.size w w' := by
 obtain ⟨x0, hx0⟩ : ∃ x0, w.alloc (.cells #[.int .i64 id, .slice cn.a cn.n cn.c] 77) = x0 := ⟨_, rfl⟩
 have HW0 := hid (hx0)
 have B0 : Hid (Below w.heap.size w x0) := by rw [← hx0]; exact (Below.refl _ _).alloc (Nat.le_refl _) _
 have K0 : Hid (Blk x0 w.heap.size 77 [.int .i64 id, .slice cn.a cn.n cn.c]) := by rw [← hx0]; exact Blk.new w _ _
 clear hx0
 go_enter Tryz.func133, Tryz.ntmps133
 go_wp2_with fail
 rw [HW0.out]
 generalize hga : w.heap.size = ga at K0 ⊢
 have c0 := K0.out.cell 0 rfl
 have c1 := K0.out.cell 1 rfl
 refine (isId id x0).mono ?_
 rintro e y ⟨rfl, rfl⟩
 cases h0 : (isIn id 1 9) with
 | false =>
  go_wp2
  go_ret
  exact ⟨by rw [h0]; simp, hga ▸ B0.out⟩
 | true =>
  go_wp2_with fail
  refine (isNonce cn.a cn.n cn.c x0).mono ?_
  rintro e y ⟨rfl, rfl⟩
  go_wp2
  go_ret
  exact ⟨by rw [h0]; simp, hga ▸ B0.out⟩

set_option maxHeartbeats 1600000 in
theorem cookRight (cn sn : Sl) (tick : Int) (cookie : Sl) (w : World) :
  Calls Tryz.prog 69 #[.agg #[.slice cn.a cn.n cn.c, .slice sn.a sn.n sn.c, .int .i64 tick, .slice cookie.a cookie.n cookie.c]] w fun e w' => e = .returned (.bool ((cn.n : Int) == 12 && ((sn.n : Int) == 12 && (isIn tick 0 1000000 && ((cookie.n : Int) == 16))))) ∧ Below w.heap.size w w' := by
 obtain ⟨x0, hx0⟩ : ∃ x0, w.alloc (.cells #[.slice cn.a cn.n cn.c, .slice sn.a sn.n sn.c, .int .i64 tick, .slice cookie.a cookie.n cookie.c] 54) = x0 := ⟨_, rfl⟩
 have HW0 := hid (hx0)
 have B0 : Hid (Below w.heap.size w x0) := by rw [← hx0]; exact (Below.refl _ _).alloc (Nat.le_refl _) _
 have K0 : Hid (Blk x0 w.heap.size 54 [.slice cn.a cn.n cn.c, .slice sn.a sn.n sn.c, .int .i64 tick, .slice cookie.a cookie.n cookie.c]) := by rw [← hx0]; exact Blk.new w _ _
 clear hx0
 go_enter Tryz.func69, Tryz.ntmps69
 go_wp2_with fail
 rw [HW0.out]
 generalize hga : w.heap.size = ga at K0 ⊢
 have c0 := K0.out.cell 0 rfl
 have c1 := K0.out.cell 1 rfl
 have c2 := K0.out.cell 2 rfl
 have c3 := K0.out.cell 3 rfl
 refine (isNonce cn.a cn.n cn.c x0).mono ?_
 rintro e y ⟨rfl, rfl⟩
 cases h0 : ((cn.n : Int) == 12) with
 | false =>
  go_wp2
  go_ret
  exact ⟨by rw [h0]; simp, hga ▸ B0.out⟩
 | true =>
  go_wp2_with fail
  refine (isNonce sn.a sn.n sn.c x0).mono ?_
  rintro e y ⟨rfl, rfl⟩
  cases h1 : ((sn.n : Int) == 12) with
  | false =>
   go_wp2
   go_ret
   exact ⟨by rw [h0, h1]; simp, hga ▸ B0.out⟩
  | true =>
   go_wp2_with fail
   refine (isTime tick x0).mono ?_
   rintro e y ⟨rfl, rfl⟩
   cases h2 : (isIn tick 0 1000000) with
   | false =>
    go_wp2
    go_ret
    exact ⟨by rw [h0, h1, h2]; simp, hga ▸ B0.out⟩
   | true =>
    go_wp2_with fail
    refine (isTag cookie.a cookie.n cookie.c x0).mono ?_
    rintro e y ⟨rfl, rfl⟩
    go_wp2
    go_ret
    exact ⟨by rw [h0, h1, h2]; simp, hga ▸ B0.out⟩

set_option maxHeartbeats 1600000 in
theorem finRight (id : Int) (cn sn : Sl) (tick : Int) (cookie proof : Sl) (w : World) :
  Calls Tryz.prog 131 #[.agg #[.int .i64 id, .slice cn.a cn.n cn.c, .slice sn.a sn.n sn.c, .int .i64 tick, .slice cookie.a cookie.n cookie.c, .slice proof.a proof.n proof.c]] w fun e w' => e = .returned (.bool (isIn id 1 9 && (((cn.n : Int) == 12) && (((sn.n : Int) == 12) && (isIn tick 0 1000000 && ((cookie.n : Int) == 16))) && ((proof.n : Int) == 16)))) ∧ Below w.heap.size w w' := by
 obtain ⟨x0, hx0⟩ : ∃ x0, w.alloc (.cells #[.int .i64 id, .slice cn.a cn.n cn.c, .slice sn.a sn.n sn.c, .int .i64 tick, .slice cookie.a cookie.n cookie.c, .slice proof.a proof.n proof.c] 57) = x0 := ⟨_, rfl⟩
 have HW0 := hid (hx0)
 have B0 : Hid (Below w.heap.size w x0) := by rw [← hx0]; exact (Below.refl _ _).alloc (Nat.le_refl _) _
 have K0 : Hid (Blk x0 w.heap.size 57 [.int .i64 id, .slice cn.a cn.n cn.c, .slice sn.a sn.n sn.c, .int .i64 tick, .slice cookie.a cookie.n cookie.c, .slice proof.a proof.n proof.c]) := by rw [← hx0]; exact Blk.new w _ _
 clear hx0
 go_enter Tryz.func131, Tryz.ntmps131
 go_wp2_with fail
 rw [HW0.out]
 generalize hga : w.heap.size = ga at K0 ⊢
 have c0 := K0.out.cell 0 rfl
 have c1 := K0.out.cell 1 rfl
 have c2 := K0.out.cell 2 rfl
 have c3 := K0.out.cell 3 rfl
 have c4 := K0.out.cell 4 rfl
 have c5 := K0.out.cell 5 rfl
 refine (isId id x0).mono ?_
 rintro e y ⟨rfl, rfl⟩
 cases h0 : (isIn id 1 9) with
 | false =>
  go_wp2
  go_ret
  exact ⟨by rw [h0]; simp, hga ▸ B0.out⟩
 | true =>
  go_wp2_with fail
  refine (cookRight cn sn tick cookie x0).mono ?_
  rintro e x1 ⟨rfl, b1⟩
  have B1 := hid (B0.out.trans (b1.mono B0.out.size))
  have K1 := hid (K0.out.later b1)
  clear b1 c0 c1 c2 c3 c4 c5
  have c0 := K1.out.cell 0 rfl
  have c1 := K1.out.cell 1 rfl
  have c2 := K1.out.cell 2 rfl
  have c3 := K1.out.cell 3 rfl
  have c4 := K1.out.cell 4 rfl
  have c5 := K1.out.cell 5 rfl
  cases h1 : (((cn.n : Int) == 12) && (((sn.n : Int) == 12) && (isIn tick 0 1000000 && ((cookie.n : Int) == 16)))) with
  | false =>
   go_wp2
   go_ret
   exact ⟨by rw [h0, h1]; simp, hga ▸ B1.out⟩
  | true =>
   go_wp2_with fail
   refine (isTag proof.a proof.n proof.c x1).mono ?_
   rintro e y ⟨rfl, rfl⟩
   go_wp2
   go_ret
   exact ⟨by rw [h0, h1]; simp, hga ▸ B1.out⟩

set_option maxHeartbeats 1600000 in
theorem partsRight (sn : Sl) (epoch seq : Int) (tag body : Sl) (w : World) :
  Calls Tryz.prog 135 #[.agg #[.slice sn.a sn.n sn.c, .int .i64 epoch, .int .i64 seq, .slice tag.a tag.n tag.c, .slice body.a body.n body.c]] w fun e w' => e = .returned (.bool ((sn.n : Int) == 12 && (isIn epoch 0 4294967295 && (isIn seq 0 281474976710655 && ((tag.n : Int) == 16))))) ∧ Below w.heap.size w w' := by
 obtain ⟨x0, hx0⟩ : ∃ x0, w.alloc (.cells #[.slice sn.a sn.n sn.c, .int .i64 epoch, .int .i64 seq, .slice tag.a tag.n tag.c, .slice body.a body.n body.c] 79) = x0 := ⟨_, rfl⟩
 have HW0 := hid (hx0)
 have B0 : Hid (Below w.heap.size w x0) := by rw [← hx0]; exact (Below.refl _ _).alloc (Nat.le_refl _) _
 have K0 : Hid (Blk x0 w.heap.size 79 [.slice sn.a sn.n sn.c, .int .i64 epoch, .int .i64 seq, .slice tag.a tag.n tag.c, .slice body.a body.n body.c]) := by rw [← hx0]; exact Blk.new w _ _
 clear hx0
 go_enter Tryz.func135, Tryz.ntmps135
 go_wp2_with fail
 rw [HW0.out]
 generalize hga : w.heap.size = ga at K0 ⊢
 obtain ⟨c0, c1, c2, c3, c4⟩ := cells5 K0.out
 refine (isNonce sn.a sn.n sn.c x0).mono ?_
 rintro e y ⟨rfl, rfl⟩
 cases h0 : ((sn.n : Int) == 12) with
 | false =>
  go_wp2
  go_ret
  exact ⟨by rw [h0]; simp, hga ▸ B0.out⟩
 | true =>
  go_wp2_with fail
  refine (isEpoch epoch x0).mono ?_
  rintro e y ⟨rfl, rfl⟩
  cases h1 : (isIn epoch 0 4294967295) with
  | false =>
   go_wp2
   go_ret
   exact ⟨by rw [h0, h1]; simp, hga ▸ B0.out⟩
  | true =>
   go_wp2_with fail
   refine (isSeq seq x0).mono ?_
   rintro e y ⟨rfl, rfl⟩
   cases h2 : (isIn seq 0 281474976710655) with
   | false =>
    go_wp2
    go_ret
    exact ⟨by rw [h0, h1, h2]; simp, hga ▸ B0.out⟩
   | true =>
    go_wp2_with fail
    refine (isTag tag.a tag.n tag.c x0).mono ?_
    rintro e y ⟨rfl, rfl⟩
    go_wp2
    go_ret
    exact ⟨by rw [h0, h1, h2]; simp, hga ▸ B0.out⟩

set_option maxHeartbeats 1600000 in
theorem dataRight (sn : Sl) (epoch seq : Int) (tag body : Sl) (w : World) :
  Calls Tryz.prog 139 #[.agg #[.slice sn.a sn.n sn.c, .int .i64 epoch, .int .i64 seq, .slice tag.a tag.n tag.c, .slice body.a body.n body.c]] w fun e w' => e = .returned (.bool (((sn.n : Int) == 12) && (isIn epoch 0 4294967295 && (isIn seq 0 281474976710655 && ((tag.n : Int) == 16))) && (decide ((body.n : Int) ≤ 40)))) ∧ Below w.heap.size w w' := by
 obtain ⟨x0, hx0⟩ : ∃ x0, w.alloc (.cells #[.slice sn.a sn.n sn.c, .int .i64 epoch, .int .i64 seq, .slice tag.a tag.n tag.c, .slice body.a body.n body.c] 82) = x0 := ⟨_, rfl⟩
 have HW0 := hid (hx0)
 have B0 : Hid (Below w.heap.size w x0) := by rw [← hx0]; exact (Below.refl _ _).alloc (Nat.le_refl _) _
 have K0 : Hid (Blk x0 w.heap.size 82 [.slice sn.a sn.n sn.c, .int .i64 epoch, .int .i64 seq, .slice tag.a tag.n tag.c, .slice body.a body.n body.c]) := by rw [← hx0]; exact Blk.new w _ _
 clear hx0
 go_enter Tryz.func139, Tryz.ntmps139
 go_wp2_with fail
 rw [HW0.out]
 generalize hga : w.heap.size = ga at K0 ⊢
 obtain ⟨c0, c1, c2, c3, c4⟩ := cells5 K0.out
 refine (partsRight sn epoch seq tag body x0).mono ?_
 rintro e x1 ⟨rfl, b1⟩
 have B1 := hid (B0.out.trans (b1.mono B0.out.size))
 have K1 := hid (K0.out.later b1)
 clear b1 c0 c1 c2 c3 c4
 obtain ⟨c0, c1, c2, c3, c4⟩ := cells5 K1.out
 cases h0 : (((sn.n : Int) == 12) && (isIn epoch 0 4294967295 && (isIn seq 0 281474976710655 && ((tag.n : Int) == 16)))) with
 | false =>
  go_wp2
  go_ret
  exact ⟨by rw [h0]; simp, hga ▸ B1.out⟩
 | true =>
  go_wp2
  go_ret
  exact ⟨by rw [h0]; simp, hga ▸ B1.out⟩

set_option maxHeartbeats 1600000 in
theorem chalRight (sn : Sl) (epoch seq : Int) (tag body : Sl) (w : World) :
  Calls Tryz.prog 141 #[.agg #[.slice sn.a sn.n sn.c, .int .i64 epoch, .int .i64 seq, .slice tag.a tag.n tag.c, .slice body.a body.n body.c]] w fun e w' => e = .returned (.bool (((sn.n : Int) == 12) && (isIn epoch 0 4294967295 && (isIn seq 0 281474976710655 && ((tag.n : Int) == 16))) && ((body.n : Int) == 12))) ∧ Below w.heap.size w w' := by
 obtain ⟨x0, hx0⟩ : ∃ x0, w.alloc (.cells #[.slice sn.a sn.n sn.c, .int .i64 epoch, .int .i64 seq, .slice tag.a tag.n tag.c, .slice body.a body.n body.c] 83) = x0 := ⟨_, rfl⟩
 have HW0 := hid (hx0)
 have B0 : Hid (Below w.heap.size w x0) := by rw [← hx0]; exact (Below.refl _ _).alloc (Nat.le_refl _) _
 have K0 : Hid (Blk x0 w.heap.size 83 [.slice sn.a sn.n sn.c, .int .i64 epoch, .int .i64 seq, .slice tag.a tag.n tag.c, .slice body.a body.n body.c]) := by rw [← hx0]; exact Blk.new w _ _
 clear hx0
 go_enter Tryz.func141, Tryz.ntmps141
 go_wp2_with fail
 rw [HW0.out]
 generalize hga : w.heap.size = ga at K0 ⊢
 obtain ⟨c0, c1, c2, c3, c4⟩ := cells5 K0.out
 refine (partsRight sn epoch seq tag body x0).mono ?_
 rintro e x1 ⟨rfl, b1⟩
 have B1 := hid (B0.out.trans (b1.mono B0.out.size))
 have K1 := hid (K0.out.later b1)
 clear b1 c0 c1 c2 c3 c4
 obtain ⟨c0, c1, c2, c3, c4⟩ := cells5 K1.out
 cases h0 : (((sn.n : Int) == 12) && (isIn epoch 0 4294967295 && (isIn seq 0 281474976710655 && ((tag.n : Int) == 16)))) with
 | false =>
  go_wp2
  go_ret
  exact ⟨by rw [h0]; simp, hga ▸ B1.out⟩
 | true =>
  go_wp2_with fail
  refine (isNonce body.a body.n body.c x1).mono ?_
  rintro e y ⟨rfl, rfl⟩
  go_wp2
  go_ret
  exact ⟨by rw [h0]; simp, hga ▸ B1.out⟩

set_option maxHeartbeats 1600000 in
theorem respRight (sn : Sl) (epoch seq : Int) (tag body : Sl) (w : World) :
  Calls Tryz.prog 143 #[.agg #[.slice sn.a sn.n sn.c, .int .i64 epoch, .int .i64 seq, .slice tag.a tag.n tag.c, .slice body.a body.n body.c]] w fun e w' => e = .returned (.bool (((sn.n : Int) == 12) && (isIn epoch 0 4294967295 && (isIn seq 0 281474976710655 && ((tag.n : Int) == 16))) && ((body.n : Int) == 12))) ∧ Below w.heap.size w w' := by
 obtain ⟨x0, hx0⟩ : ∃ x0, w.alloc (.cells #[.slice sn.a sn.n sn.c, .int .i64 epoch, .int .i64 seq, .slice tag.a tag.n tag.c, .slice body.a body.n body.c] 84) = x0 := ⟨_, rfl⟩
 have HW0 := hid (hx0)
 have B0 : Hid (Below w.heap.size w x0) := by rw [← hx0]; exact (Below.refl _ _).alloc (Nat.le_refl _) _
 have K0 : Hid (Blk x0 w.heap.size 84 [.slice sn.a sn.n sn.c, .int .i64 epoch, .int .i64 seq, .slice tag.a tag.n tag.c, .slice body.a body.n body.c]) := by rw [← hx0]; exact Blk.new w _ _
 clear hx0
 go_enter Tryz.func143, Tryz.ntmps143
 go_wp2_with fail
 rw [HW0.out]
 generalize hga : w.heap.size = ga at K0 ⊢
 obtain ⟨c0, c1, c2, c3, c4⟩ := cells5 K0.out
 refine (partsRight sn epoch seq tag body x0).mono ?_
 rintro e x1 ⟨rfl, b1⟩
 have B1 := hid (B0.out.trans (b1.mono B0.out.size))
 have K1 := hid (K0.out.later b1)
 clear b1 c0 c1 c2 c3 c4
 obtain ⟨c0, c1, c2, c3, c4⟩ := cells5 K1.out
 cases h0 : (((sn.n : Int) == 12) && (isIn epoch 0 4294967295 && (isIn seq 0 281474976710655 && ((tag.n : Int) == 16)))) with
 | false =>
  go_wp2
  go_ret
  exact ⟨by rw [h0]; simp, hga ▸ B1.out⟩
 | true =>
  go_wp2_with fail
  refine (isNonce body.a body.n body.c x1).mono ?_
  rintro e y ⟨rfl, rfl⟩
  go_wp2
  go_ret
  exact ⟨by rw [h0]; simp, hga ▸ B1.out⟩

set_option maxHeartbeats 1600000 in
theorem rekRight (sn : Sl) (epoch seq : Int) (tag body : Sl) (w : World) :
  Calls Tryz.prog 145 #[.agg #[.slice sn.a sn.n sn.c, .int .i64 epoch, .int .i64 seq, .slice tag.a tag.n tag.c, .slice body.a body.n body.c]] w fun e w' => e = .returned (.bool (((sn.n : Int) == 12) && (isIn epoch 0 4294967295 && (isIn seq 0 281474976710655 && ((tag.n : Int) == 16))) && ((body.n : Int) == 4))) ∧ Below w.heap.size w w' := by
 obtain ⟨x0, hx0⟩ : ∃ x0, w.alloc (.cells #[.slice sn.a sn.n sn.c, .int .i64 epoch, .int .i64 seq, .slice tag.a tag.n tag.c, .slice body.a body.n body.c] 85) = x0 := ⟨_, rfl⟩
 have HW0 := hid (hx0)
 have B0 : Hid (Below w.heap.size w x0) := by rw [← hx0]; exact (Below.refl _ _).alloc (Nat.le_refl _) _
 have K0 : Hid (Blk x0 w.heap.size 85 [.slice sn.a sn.n sn.c, .int .i64 epoch, .int .i64 seq, .slice tag.a tag.n tag.c, .slice body.a body.n body.c]) := by rw [← hx0]; exact Blk.new w _ _
 clear hx0
 go_enter Tryz.func145, Tryz.ntmps145
 go_wp2_with fail
 rw [HW0.out]
 generalize hga : w.heap.size = ga at K0 ⊢
 obtain ⟨c0, c1, c2, c3, c4⟩ := cells5 K0.out
 refine (partsRight sn epoch seq tag body x0).mono ?_
 rintro e x1 ⟨rfl, b1⟩
 have B1 := hid (B0.out.trans (b1.mono B0.out.size))
 have K1 := hid (K0.out.later b1)
 clear b1 c0 c1 c2 c3 c4
 obtain ⟨c0, c1, c2, c3, c4⟩ := cells5 K1.out
 cases h0 : (((sn.n : Int) == 12) && (isIn epoch 0 4294967295 && (isIn seq 0 281474976710655 && ((tag.n : Int) == 16)))) with
 | false =>
  go_wp2
  go_ret
  exact ⟨by rw [h0]; simp, hga ▸ B1.out⟩
 | true =>
  go_wp2
  go_ret
  exact ⟨by rw [h0]; simp, hga ▸ B1.out⟩

set_option maxHeartbeats 1600000 in
theorem ackRight (sn : Sl) (epoch seq : Int) (tag body : Sl) (w : World) :
  Calls Tryz.prog 147 #[.agg #[.slice sn.a sn.n sn.c, .int .i64 epoch, .int .i64 seq, .slice tag.a tag.n tag.c, .slice body.a body.n body.c]] w fun e w' => e = .returned (.bool (((sn.n : Int) == 12) && (isIn epoch 0 4294967295 && (isIn seq 0 281474976710655 && ((tag.n : Int) == 16))) && ((body.n : Int) == 4))) ∧ Below w.heap.size w w' := by
 obtain ⟨x0, hx0⟩ : ∃ x0, w.alloc (.cells #[.slice sn.a sn.n sn.c, .int .i64 epoch, .int .i64 seq, .slice tag.a tag.n tag.c, .slice body.a body.n body.c] 86) = x0 := ⟨_, rfl⟩
 have HW0 := hid (hx0)
 have B0 : Hid (Below w.heap.size w x0) := by rw [← hx0]; exact (Below.refl _ _).alloc (Nat.le_refl _) _
 have K0 : Hid (Blk x0 w.heap.size 86 [.slice sn.a sn.n sn.c, .int .i64 epoch, .int .i64 seq, .slice tag.a tag.n tag.c, .slice body.a body.n body.c]) := by rw [← hx0]; exact Blk.new w _ _
 clear hx0
 go_enter Tryz.func147, Tryz.ntmps147
 go_wp2_with fail
 rw [HW0.out]
 generalize hga : w.heap.size = ga at K0 ⊢
 obtain ⟨c0, c1, c2, c3, c4⟩ := cells5 K0.out
 refine (partsRight sn epoch seq tag body x0).mono ?_
 rintro e x1 ⟨rfl, b1⟩
 have B1 := hid (B0.out.trans (b1.mono B0.out.size))
 have K1 := hid (K0.out.later b1)
 clear b1 c0 c1 c2 c3 c4
 obtain ⟨c0, c1, c2, c3, c4⟩ := cells5 K1.out
 cases h0 : (((sn.n : Int) == 12) && (isIn epoch 0 4294967295 && (isIn seq 0 281474976710655 && ((tag.n : Int) == 16)))) with
 | false =>
  go_wp2
  go_ret
  exact ⟨by rw [h0]; simp, hga ▸ B1.out⟩
 | true =>
  go_wp2
  go_ret
  exact ⟨by rw [h0]; simp, hga ▸ B1.out⟩

end Go.Proofs.YtpenhliaelhnoaaGreatDoor.FrW

namespace Go.Proofs.YtpenhliaelhnoaaGreatDoor.Each
open Go.RowKit

def frL (D : List Nat) (t : Nat → Value) : Nat → List Value → List Value
 | _, [] => []
 | i, v :: r => (if D.contains i then t i else v) :: frL D t (i + 1) r
def fr (D : List Nat) (a : Act) (t : Nat → Value) : Act := { tmps := (frL D t 0 a.tmps.toList).toArray, defers := a.defers }
theorem frL_at (D : List Nat) (t : Nat → Value) (l : List Value) : ∀ i k, (frL D t i l)[k]? = (l[k]?).map (fun v => if D.contains (i + k) then t (i + k) else v) := by
 induction l with
 | nil => intro i k; simp [frL]
 | cons v r ih =>
  intro i k
  cases k with
  | zero => simp [frL]
  | succ k =>
   have := ih (i + 1) k
   rw [show i + 1 + k = i + (k + 1) by omega] at this
   simpa [frL] using this
theorem fr_eq (D : List Nat) (a : Act) (t : Nat → Value) : fr D a t = { tmps := a.tmps.mapIdx (fun i v => if D.contains i then t i else v), defers := a.defers } := by
 unfold fr
 congr 1
 apply Array.ext_getElem?
 intro k
 rw [Array.getElem?_mapIdx, List.getElem?_toArray, frL_at, Nat.zero_add, Array.getElem?_toList]
def upd (t : Nat → Value) (d : Nat) (v : Value) : Nat → Value := fun i => if i = d then v else t i
theorem upd_same (t : Nat → Value) (d : Nat) (v : Value) : upd t d v d = v := by simp [upd]
theorem upd_other (t : Nat → Value) (d : Nat) (v : Value) (i : Nat) (h : i ≠ d) : upd t d v i = t i := by simp [upd, h]
theorem fr_start (D : List Nat) (a : Act) : fr D a (fun i => a.tmps.getD i undef) = a := by
 cases a with | mk tmps defers =>
 rw [fr_eq]
 congr 1
 apply Array.ext
 ·
  simp
 ·
  intro i h1 h2
  simp at h1
  simp [h2]
theorem fr_put (D : List Nat) (a : Act) (t : Nat → Value) (d : Nat) (v : Value) (hd : D.contains d = true) : (fr D a t).put (some d) v = fr D a (upd t d v) := by
 rw [fr_eq, fr_eq]
 simp only [Act.put]
 congr 1
 apply Array.ext
 ·
  simp
 ·
  intro i h1 h2
  simp only [Array.size_setIfInBounds, Array.size_mapIdx] at h1
  rw [Array.getElem_setIfInBounds (by simpa using h1)]
  by_cases hid : d = i
  ·
   subst hid
   simp only [if_true, Array.getElem_mapIdx, hd, upd_same]
  ·
   simp only [hid, if_false, Array.getElem_mapIdx]
   split
   ·
    rw [upd_other _ _ _ _ (Ne.symm hid)]
   ·
    rfl
theorem fr_eval (D : List Nat) (a : Act) (t : Nat → Value) (d : Nat) (hd : D.contains d = true) (hl : d < a.tmps.size) : (fr D a t).eval (.tmp d) = t d := by
 have hd' : d ∈ D := by simpa using hd
 rw [fr_eq]
 simp [Act.eval, Array.getD, hl, hd']
theorem fr_eval_old (D : List Nat) (a : Act) (t : Nat → Value) (d : Nat) (hd : D.contains d = false) : (fr D a t).eval (.tmp d) = a.eval (.tmp d) := by
 have hd' : ¬ d ∈ D := by simpa using hd
 rw [fr_eq]
 by_cases hl : d < a.tmps.size
 ·
  simp [Act.eval, Array.getD, hl, hd']
 ·
  simp [Act.eval, Array.getD, hl]

def pre (ops : Array Oper) (i : Nat) : List Nat := match ops[i]? with
 | some o => (o.after.toList.filter (Region.binds .any)).map (·.on)
 | none => []
theorem mem_pre {ops : Array Oper} {i : Nat} {o : Oper} (h : ops[i]? = some o) {j : Nat} : j ∈ pre ops i ↔ ∃ e ∈ o.after, Region.binds .any e = true ∧ e.on = j := by
 unfold pre
 rw [h]
 simp only [List.mem_map, List.mem_filter, Array.mem_toList_iff]
 constructor
 ·
  rintro ⟨e, ⟨h1, h2⟩, h3⟩; exact ⟨e, h1, h2, h3⟩
 ·
  rintro ⟨e, h1, h2, h3⟩; exact ⟨e, ⟨h1, h2⟩, h3⟩

theorem pre_mem {ops : Array Oper} {i j : Nat} (h : (pre ops i).contains j = true) : j ∈ pre ops i := by simpa using h

def fitB (ops : Array Oper) (last : Nat) (D : List Nat) (dst : Nat → Nat) : Bool :=
 ops.size == last + 1 &&
 (List.range (last + 1)).all (fun i => (pre ops i).all (fun j => decide (j < i))) &&
 (List.range last).all (fun j => (List.range (last + 1)).any (fun k => decide (j < k) && (pre ops k).contains j)) &&
 (List.range last).all (fun i => D.contains (dst i) && (List.range last).all (fun j => i == j || dst i != dst j))

theorem region_each {P : Program} {ops : Array Oper} {Q : Exit → Act → World → Prop} {id : Nat} {a0 : Act} {w0 : World}
  (hm : P.follows .mixedOrders = true) (D : List Nat) (last : Nat) (dst : Nat → Nat) (cls : Nat → Nat)
  (F : Nat → Nat → Value → World → Prop) (B : World → Prop) (hfit : fitB ops last D dst = true)
  (hB : B w0.drew)
  (hkeep : ∀ i g v w w', i < last → F i g v w → Below w.heap.size w w' → B w' → F i g v w')
  (hstep : ∀ i, i < last → ∀ (t : Nat → Value) (ρ : Nat → Nat) (w : World), B w → (∀ j ∈ pre ops i, F j (ρ j) (t (dst j)) w) → (∀ x y, x ∈ pre ops i → y ∈ pre ops i → cls x ≠ 0 → cls y ≠ 0 → cls x ≠ cls y → ρ x ≠ ρ y) →
   wpOp P ops Q i (fun a' w' => ∃ v g, a' = (fr D a0 t).put (some (dst i)) v ∧ B w' ∧ Below w.heap.size w w' ∧ F i g v w' ∧ (cls i = 0 ∨ g < w'.heap.size ∧ (w.heap.size ≤ g ∨ ∃ j ∈ pre ops i, cls j = cls i ∧ g = ρ j))) (fr D a0 t) w)
  (hlast : ∀ (t : Nat → Value) (ρ : Nat → Nat) (w : World), B w → (∀ j, j < last → F j (ρ j) (t (dst j)) w) →
   (∀ i j, i < last → j < last → cls i ≠ 0 → cls j ≠ 0 → cls i ≠ cls j → ρ i ≠ ρ j) →
   wpOp P ops Q last (fun a' w' => Q .normal a' w') (fr D a0 t) w) :
  (Code.region id ops true).wp P Q a0 w0 := by
 unfold fitB at hfit
 simp only [Bool.and_eq_true, beq_iff_eq, List.all_eq_true, List.mem_range, decide_eq_true_eq, List.any_eq_true, Bool.or_eq_true, bne_iff_ne, ne_eq] at hfit
 obtain ⟨⟨⟨hsz, hord⟩, hcov⟩, hdst⟩ := hfit
 have main : ∀ (fuel : Nat) (listed : Array Bool) (a : Act) (w : World), listed.size = ops.size → listed.getD last true = false → listed.toList.count false ≤ fuel →
   (∀ i, i < last + 1 → listed.getD i true = true → ∀ j ∈ pre ops i, listed.getD j true = true) →
   (∃ (t : Nat → Value) (ρ : Nat → Nat), a = fr D a0 t ∧ B w ∧ (∀ i, i < last → listed.getD i true = true → F i (ρ i) (t (dst i)) w ∧ (cls i = 0 ∨ ρ i < w.heap.size)) ∧
    (∀ i j, i < last → j < last → listed.getD i true = true → listed.getD j true = true → cls i ≠ 0 → cls j ≠ 0 → cls i ≠ cls j → ρ i ≠ ρ j)) →
   wpAny P .any ops Q fuel listed a w := by
  intro fuel
  induction fuel with
  | zero =>
   intro listed a w hls hl hc _ _
   exfalso
   have hlt : last < listed.size := by omega
   have : false ∈ listed.toList := by
    rw [Array.mem_toList_iff]
    have : listed[last] = false := by simpa [Array.getD, hlt] using hl
    rw [← this]; exact Array.getElem_mem hlt
   have := List.count_pos_iff.2 this
   omega
  | succ fuel ih =>
   intro listed a w hls hl hc hcl ⟨t, ρ, ha, hBw, hF, hne⟩
   have hop : ∀ i, i < last + 1 → ∃ o, ops[i]? = some o := fun i hi => ⟨ops[i]'(by omega), by simp⟩
   refine ⟨fun h0 => ?_, fun i hi => ?_⟩
   ·
    exfalso
    -- the least that is not listed may come up
    have : ∃ i, i < last + 1 ∧ listed.getD i true = false ∧ ∀ j, j < i → listed.getD j true = true := by
     have aux : ∀ m, m ≤ last + 1 → (∀ j, j < m → listed.getD j true = true) ∨ ∃ i, i < m ∧ listed.getD i true = false ∧ ∀ j, j < i → listed.getD j true = true := by
      intro m
      induction m with
      | zero => intro _; exact .inl fun j hj => by omega
      | succ m ihm =>
       intro hm1
       rcases ihm (by omega) with h | ⟨i, h1, h2, h3⟩
       ·
        cases hv : listed.getD m true with
        | false => exact .inr ⟨m, by omega, hv, h⟩
        | true =>
         left; intro j hj
         rcases Nat.lt_or_ge j m with h' | h'
         ·
          exact h j h'
         ·
          obtain rfl : j = m := by omega
          exact hv
       ·
        exact .inr ⟨i, by omega, h2, h3⟩
     rcases aux (last + 1) (Nat.le_refl _) with h | h
     ·
      have := h last (by omega); rw [hl] at this; cases this
     ·
      exact h
    obtain ⟨i, hi, hu, hb⟩ := this
    obtain ⟨o, ho⟩ := hop i hi
    have : i ∈ Region.ready .any ops listed := mem_ready.2 ⟨hu, o, ho, fun e he hbi => by
     have hj := hord i hi e.on ((mem_pre ho).2 ⟨e, he, hbi, rfl⟩)
     have := hb e.on hj
     have hlt : e.on < listed.size := by omega
     simpa [Array.getD, hlt] using this⟩
    rw [h0] at this; cases this
   ·
    obtain ⟨hu, o, ho, hpre⟩ := mem_ready.1 hi
    have hil : i < last + 1 := by
     have := (Array.getElem?_eq_some_iff.1 ho).1; omega
    have hpre' : ∀ j ∈ pre ops i, listed.getD j true = true := fun j hj => by
     obtain ⟨e, he, hbi, rfl⟩ := (mem_pre ho).1 hj
     have h1 := hpre e he hbi
     have hlt : e.on < listed.size := by
      have := hord i hil e.on hj; omega
     simpa [Array.getD, hlt] using h1
    have hset : ∀ j, (listed.setIfInBounds i true).getD j true = true ↔ j = i ∨ listed.getD j true = true := fun j => by
     by_cases hji : j = i
     ·
      subst hji
      have hlt : j < listed.size := by omega
      simp [Array.getD, hlt]
     ·
      simp only [hji, false_or]
      rw [getD_set_ne true (Ne.symm hji)]
    by_cases hlast' : i = last
    ·
     subst hlast'
     have hall : ∀ d j, j + d = i → j < i → listed.getD j true = true := by
      intro d
      induction d using Nat.strongRecOn with
      | ind d ihd =>
       intro j hjd hji
       obtain ⟨k, hk, hjk, hmem⟩ := hcov j hji
       have hmem' : j ∈ pre ops k := by simpa using hmem
       by_cases hki : k = i
       ·
        subst hki; exact hpre' j hmem'
       ·
        exact hcl k hk (ihd (i - k) (by omega) k (by omega) (by omega)) j hmem'
     have hl2 := hlast t ρ w hBw (fun j hj => (hF j hj (hall (i - j) j (by omega) hj)).1) (fun x y hx hy => hne x y hx hy (hall (i - x) x (by omega) hx) (hall (i - y) y (by omega) hy))
     rw [ha]
     refine wpOp_mono (fun a' w' hQ => wpAny_done ?_ hQ fuel) hl2
     apply List.eq_nil_iff_forall_not_mem.2
     intro k hk
     obtain ⟨hku, ok, hok, _⟩ := mem_ready.1 hk
     have hkl : k < i + 1 := by have := (Array.getElem?_eq_some_iff.1 hok).1; omega
     have : (listed.setIfInBounds i true).getD k true = true := (hset k).2 (by
      by_cases hki : k = i
      ·
       exact .inl hki
      ·
       exact .inr (hall (i - k) k (by omega) (by omega)))
     rw [hku] at this; cases this
    ·
     have hilt : i < last := by omega
     have hs := hstep i hilt t ρ w hBw (fun j hj => (hF j (by have := hord i hil j hj; omega) (hpre' j hj)).1) (fun x y hx hy => hne x y (by have := hord i hil x hx; omega) (by have := hord i hil y hy; omega) (hpre' x hx) (hpre' y hy))
     rw [ha]
     refine wpOp_mono (fun a' w' h => ?_) hs
     obtain ⟨v, g, rfl, hB', hbe, hFi, hg⟩ := h
     rw [fr_put D a0 t (dst i) v (hdst i hilt).1]
     apply ih
     ·
      simp [hls]
     ·
      cases hx : (listed.setIfInBounds i true).getD last true with
      | false => rfl
      | true =>
       rcases (hset last).1 hx with h | h
       ·
        exact absurd h.symm hlast'
       ·
        rw [hl] at h; cases h
     ·
      have hlt : i < listed.toList.length := by simp; omega
      have hfi : listed.toList[i] = false := by
       have hlt' : i < listed.size := by omega
       simpa [Array.getD, hlt'] using hu
      rw [Array.toList_setIfInBounds, List.count_set hlt, hfi]
      have : 0 < listed.toList.count false := List.count_pos_iff.2 (by rw [← hfi]; exact List.getElem_mem hlt)
      rw [if_pos (by rfl), if_neg (by decide)]
      omega
     ·
      intro k hk hkl j hj
      rcases (hset k).1 hkl with rfl | h
      ·
       exact (hset j).2 (.inr (hpre' j hj))
      ·
       exact (hset j).2 (.inr (hcl k hk h j hj))
     ·
      refine ⟨upd t (dst i) v, fun k => if k = i then g else ρ k, rfl, hB', ?_, ?_⟩
      ·
       intro k hk hkl
       by_cases hki : k = i
       ·
        subst hki
        simp only [if_true, upd_same]
        exact ⟨hFi, hg.imp (fun h => h) And.left⟩
       ·
        have hdk : dst k ≠ dst i := by
         have := (hdst k hk).2 i hilt
         rcases this with h | h
         ·
          exact absurd h hki
         ·
          exact h
        have := hF k hk (((hset k).1 hkl).resolve_left hki)
        simp only [hki, if_false, upd_other _ _ _ _ hdk]
        exact ⟨hkeep k _ _ w w' hk this.1 hbe hB', this.2.imp (fun h => h) (fun h => Nat.lt_of_lt_of_le h hbe.size)⟩
      ·
       intro x y hx hy hxl hyl cx cy cxy
       have key : ∀ y, y < last → y ≠ i → (listed.setIfInBounds i true).getD y true = true → cls i ≠ 0 → cls y ≠ 0 → cls i ≠ cls y → g ≠ ρ y := by
        intro y hy hyi hyl ci cy ciy
        have hyl' := ((hset y).1 hyl).resolve_left hyi
        rcases hg with h | ⟨_, h | ⟨j, hj, hcj, rfl⟩⟩
        ·
         exact absurd h ci
        ·
         have := (hF y hy hyl').2
         rcases this with h' | h'
         ·
          exact absurd h' cy
         ·
          omega
        ·
         have hjl : j < last := by have := hord i hil j hj; omega
         exact hne j y hjl hy (hpre' j hj) hyl' (by rw [hcj]; exact ci) cy (by rw [hcj]; exact ciy)
       by_cases hxi : x = i
       ·
        subst hxi
        have hyx : y ≠ x := fun h => cxy (by rw [h])
        simp only [if_true, hyx, if_false]
        exact key y hy hyx hyl cx cy cxy
       ·
        by_cases hyi : y = i
        ·
         subst hyi
         simp only [if_true, hxi, if_false]
         exact Ne.symm (key x hx hxi hxl cy cx (Ne.symm cxy))
        ·
         simp only [hxi, hyi, if_false]
         exact hne x y hx hy (((hset x).1 hxl).resolve_left hxi) (((hset y).1 hyl).resolve_left hyi) cx cy cxy
 refine wp_region_any hm ?_
 have hrep : ∀ i, i < last + 1 → (Array.replicate ops.size false).getD i true = false := fun i hi => by
  have : i < ops.size := by omega
  simp [Array.getD, this]
 refine main ops.size (Array.replicate ops.size false) a0 w0.drew (by simp) (hrep last (by omega)) (by simp) (fun i hi h => by rw [hrep i hi] at h; cases h) ?_
 exact ⟨_, fun _ => 0, (fr_start D a0).symm, hB, (fun i hi h => by rw [hrep i (by omega)] at h; cases h), (fun i j hi _ h => by rw [hrep i (by omega)] at h; cases h)⟩
end Go.Proofs.YtpenhliaelhnoaaGreatDoor.Each

namespace Go.Proofs.YtpenhliaelhnoaaGreatDoor.Copy
open Go.RowKit Mem MemI App Blk Each

set_option maxHeartbeats 400000 in
theorem op_wp {P : Program} {ops : Array Oper} {Q : Exit → Act → World → Prop} {i : Nat} {o : Oper} {K : Act → World → Prop} {a : Act} {w : World}
  (hi : ops[i]? = some o) (hg : o.guard = none) (h : Oper.wp P o a w K Q) : wpOp P ops Q i K a w := by
 unfold wpOp
 rw [hi]
 have hw : Region.wanted o (yielded ops a.tmps) = true := by simp [Region.wanted, hg]
 simp only [hw, if_true]
 exact .inl h
set_option maxHeartbeats 400000 in
theorem op_run {P : Program} {ops : Array Oper} {Q : Exit → Act → World → Prop} {i : Nat} {o : Oper} {K : Act → World → Prop} {a : Act} {w w' : World} {v : Value}
  (hi : ops[i]? = some o) (hg : o.guard = none) (hr : (execOp a.eval o).run P w = .ok (.value v) w') (hk : K (a.put o.dst v) w') : wpOp P ops Q i K a w := by
 refine op_wp hi hg ?_
 unfold Oper.wp
 rw [hr]
 exact hk

end Go.Proofs.YtpenhliaelhnoaaGreatDoor.Copy

namespace Go.Proofs.YtpenhliaelhnoaaGreatDoor.Ops
open Go.RowKit Mem App Blk Each Copy

theorem op_call {P : Program} {ops : Array Oper} {Q : Exit → Act → World → Prop} {i : Nat} {o : Oper} {K : Act → World → Prop} {a : Act} {w : World} {f : FuncId} {args : Array Value} {R : Ending → World → Prop}
  (hi : ops[i]? = some o) (hg : o.guard = none) (hr : (execOp a.eval o).run P w = .ok (.enter f args) w) (hc : Calls P f args w R)
  (hk : ∀ e w', R e w' → ∃ v, e = .returned v ∧ K (a.put o.dst v) w') : wpOp P ops Q i K a w := by
 refine op_wp hi hg ?_
 unfold Oper.wp
 rw [hr]
 refine hc.mono ?_
 intro e w' h
 obtain ⟨v, rfl, h2⟩ := hk e w' h
 exact h2
end Go.Proofs.YtpenhliaelhnoaaGreatDoor.Ops

namespace Go.Proofs.YtpenhliaelhnoaaGreatDoor.KeI
open Go.RowKit Mem App Blk Words Zone Res KeP Shp KeL Each Copy Ops

theorem nil_ans {w x : World} (b : Below w.heap.size w x) : AnsB [] w (.returned (.slice (some ⟨x.heap.size, 0, none⟩) 0 0)) (x.alloc (.cells #[] 5)) :=
 ⟨⟨some ⟨x.heap.size, 0, none⟩, 0, 0⟩, rfl, SOwn.row (row_new x [] (by simp)) rfl (fun z hz => by cases hz) b.size (by rw [World.size_alloc]; exact Nat.lt_succ_self _), b.alloc b.size _⟩

theorem implPskOk (s : Sl) (l : List Int) (w : World) (h : SRd w s l) :
  Calls Tryz.prog 65 #[.slice s.a s.n s.c] w fun e w' => e = .returned (.bool (pskOk l.length)) ∧ w = w' := by
 have HN : Hid (pskOk l.length = isIn (s.n : Int) 1 32) := by show _ = _; rw [h.len]; rfl
 clear h
 by_cases h1 : (s.n : Int) ≥ 1
 ·
  by_cases h2 : (s.n : Int) ≤ 32
  ·
   have H : Hid (isIn (s.n : Int) 1 32 = true) := isIn_yes ⟨h1, by omega⟩
   go_enter Tryz.func65, Tryz.ntmps65
   go_wp2
   go_ret
   exact ⟨by rw [HN.out, H.out]; simp, rfl⟩
  ·
   have H : Hid (isIn (s.n : Int) 1 32 = false) := isIn_no (fun h => h2 (by omega))
   go_enter Tryz.func65, Tryz.ntmps65
   go_wp2
   go_ret
   exact ⟨by rw [HN.out, H.out]; simp, rfl⟩
 ·
  have H : Hid (isIn (s.n : Int) 1 32 = false) := isIn_no (fun h => h1 h.1)
  go_enter Tryz.func65, Tryz.ntmps65
  go_wp2
  go_ret
  exact ⟨by rw [HN.out, H.out]; simp, rfl⟩
theorem two_bytes {id : Int} (h : 1 ≤ id ∧ id ≤ 9) : Bytes [102, id] := by intro z hz; simp at hz; omega
theorem rowSRd {w : World} {g c m : Nat} {l : List Int} (h : Row w g c l) (hm : m = l.length) (hb : Bytes l) : SRd w ⟨some ⟨g, 0, none⟩, m, c⟩ l := ⟨hm, h.rd, (by intro e; cases e), by show m ≤ c; rw [hm]; exact h.1, hb⟩
set_option maxHeartbeats 8000000 in
theorem implProofBody (id : Int) (c s : Sl) (cn sn : List Int) (tick : Int) (k : Sl) (ck : List Int) (w : World) (hc : SRd w c cn) (hs : SRd w s sn) (hk : SRd w k ck) :
  Calls Tryz.prog 49 #[.int .i64 id, .slice c.a c.n c.c, .slice s.a s.n s.c, .int .i64 tick, .slice k.a k.n k.c] w (AnsB (proofL id cn sn tick ck) w) := by
 have HC := hid (hc)
 have HNC : Hid (c.n = cn.length) := hc.len
 have HS := hid (hs)
 have HNS : Hid (s.n = sn.length) := hs.len
 have HK := hid (hk)
 have HNK : Hid (k.n = ck.length) := hk.len
 obtain ⟨R, hR⟩ : ∃ R, proofL id cn sn tick ck = R := ⟨_, rfl⟩
 have HRD : Hid (proofL id cn sn tick ck = R) := hR
 rw [hR]
 clear hc hs hk hR
 go_enter Tryz.func49, Tryz.ntmps49
 obtain ⟨x1, hx1⟩ : ∃ x1, w.alloc (.cells #[.slice c.a c.n c.c, .slice s.a s.n s.c, .int .i64 tick, .slice k.a k.n k.c] 54) = x1 := ⟨_, rfl⟩
 have HW1 := hid (hx1)
 have b1 : Below w.heap.size w x1 := by rw [← hx1]; exact (Below.refl _ _).alloc (Nat.le_refl _) _
 have KN : Blk x1 w.heap.size 54 [.slice c.a c.n c.c, .slice s.a s.n s.c, .int .i64 tick, .slice k.a k.n k.c] := by rw [← hx1]; exact Blk.new w _ _
 have HSZ1 : Hid (x1.heap.size = w.heap.size + 1) := by rw [← hx1]; show _ = _; simp
 clear hx1
 have L1 := hid (b1.size)
 have B1 := hid (b1)
 clear b1
 go_upto_region 2 with fail
 rw [HW1.out]
 obtain ⟨gc, hgc⟩ : ∃ g, w.heap.size = g := ⟨_, rfl⟩
 have Ggc : Hid (w.heap.size = gc ∧ x1.heap.size = gc + 1) := ⟨hgc, by rw [← hgc]; exact HSZ1.out⟩
 rw [hgc] at KN ⊢
 clear HW1 HSZ1 hgc
 have KC1 := hid (KN)
 clear KN
 go_wp2_with fail
 refine (FrW.isId id x1).mono ?_
 rintro e y ⟨rfl, rfl⟩
 cases h0 : (isIn id 1 9) with
 | false =>
  obtain rfl : R = [] := by rw [← HRD.out]; exact proofL_no (by unfold proofF; rw [h0]; rfl)
  go_wp2
  go_ret
  exact nil_ans B1.out
 | true =>
  have d0 := KC1.out.cell 0 rfl
  have d1 := KC1.out.cell 1 rfl
  have d2 := KC1.out.cell 2 rfl
  have d3 := KC1.out.cell 3 rfl
  go_wp2_with fail
  refine (FrW.cookRight c s tick k x1).mono ?_
  rintro e x2 ⟨rfl, b⟩
  have L2 := hid (b.size)
  have B2 := hid (B1.out.trans (b.mono B1.out.size))
  have KC2 := hid (KC1.out.later b)
  clear b B1 KC1
  clear d0 d1 d2 d3
  have HE : Hid (proofF id cn.length sn.length tick ck.length = (isIn id 1 9 && (((c.n : Int) == 12) && (((s.n : Int) == 12) && (isIn tick 0 1000000 && ((k.n : Int) == 16)))))) := by have e1 := HNC.out; have e2 := HNS.out; have e3 := HNK.out; show proofF _ _ _ _ _ = _; unfold proofF; rw [← e1, ← e2, ← e3]; simp only [Bool.and_assoc]
  cases h1 : (((c.n : Int) == 12) && (((s.n : Int) == 12) && (isIn tick 0 1000000 && ((k.n : Int) == 16)))) with
  | false =>
   obtain rfl : R = [] := by rw [← HRD.out]; exact proofL_no (by rw [HE.out, h0, h1]; rfl)
   go_wp2
   go_ret
   exact nil_ans B2.out
  | true =>
   have HF : Hid (proofF id cn.length sn.length tick ck.length = true) := by show proofF _ _ _ _ _ = true; rw [HE.out, h0, h1]; rfl
   have HP := proofF_parts HF.out
   have HL : Hid (cn.length = 12 ∧ sn.length = 12 ∧ ck.length = 16) := ⟨HP.2.1, HP.2.2.1, HP.2.2.2.2⟩
   have HI : Hid (1 ≤ id ∧ id ≤ 9) := HP.1
   have HQ : Hid ([[102, id], cn, sn, putN tick 4, ck].flatten = R) := by show _ = _; rw [← HRD.out, proofL_yes HF.out]; simp
   have hw8 : IntKind.u8.wrap id = id := by rw [IntKind.wrap_u8']; have := HI.out; omega
   have HRB : Hid (Bytes R) := by rw [← HRD.out]; exact proofL_bytes HC.out.bytes HS.out.bytes HK.out.bytes
   have HRL : Hid (R.length = 46) := by show _ = _; rw [← HRD.out]; exact proofL_len HF.out
   clear HP h0 h1
   clear KC2
   have A1 : Hid (Below x2.heap.size x2 (x2.alloc (.cells #[.int .u8 102, .int .u8 id] 5))) := (Below.refl _ _).alloc (Nat.le_refl _) _
   have Q1 : Hid (Row (x2.alloc (.cells #[.int .u8 102, .int .u8 id] 5)) x2.heap.size 2 [102, id]) := row_new x2 [102, id] (by simp [maxLen])
   go_wp2_with fail
   refine (implPutN none 0 0 [] tick 4 (x2.alloc (.cells #[.int .u8 102, .int .u8 id] 5)) rfl (fun i hi => by cases hi) (fun _ => rfl) (by simp)).mono ?_
   rintro e y1 ⟨g4, m4, c4, rfl, em, kg, rr, b⟩
   obtain rfl : m4 = 4 := by rw [em, List.nil_append, putN4_len]
   have A2 := hid (B2.out.trans ((A1.out.trans (b.mono A1.out.size)).mono B2.out.size))
   have Q2 : Hid (SRd y1 ⟨some ⟨x2.heap.size, 0, none⟩, 2, 2⟩ [102, id]) := (rowSRd Q1.out rfl (two_bytes HI.out)).later b
   have Q4 : Hid (SRd y1 ⟨some ⟨g4, 0, none⟩, 4, c4⟩ (putN tick 4)) := rowSRd (List.nil_append (putN tick 4) ▸ rr) (putN4_len tick).symm (num_bytes _ _)
   clear em kg rr b A1 Q1
   have P5 : Hid (Parts (y1.alloc (.cells #[.slice (some ⟨x2.heap.size, 0, none⟩) 2 2, .slice c.a c.n c.c, .slice s.a s.n s.c, .slice (some ⟨g4, 0, none⟩) 4 c4, .slice k.a k.n k.c] 22)) y1.heap.size [⟨some ⟨x2.heap.size, 0, none⟩, 2, 2⟩, c, s, ⟨some ⟨g4, 0, none⟩, 4, c4⟩, k] [[102, id], cn, sn, putN tick 4, ck]) := Parts.of (Blk.new y1 _ _) ⟨Q2.out.later ((Below.refl _ _).alloc (Nat.le_refl _) _), (HC.out.later A2.out).later ((Below.refl _ _).alloc (Nat.le_refl _) _), (HS.out.later A2.out).later ((Below.refl _ _).alloc (Nat.le_refl _) _), Q4.out.later ((Below.refl _ _).alloc (Nat.le_refl _) _), (HK.out.later A2.out).later ((Below.refl _ _).alloc (Nat.le_refl _) _), trivial⟩
   have A3 : Hid (Below w.heap.size w (y1.alloc (.cells #[.slice (some ⟨x2.heap.size, 0, none⟩) 2 2, .slice c.a c.n c.c, .slice s.a s.n s.c, .slice (some ⟨g4, 0, none⟩) 4 c4, .slice k.a k.n k.c] 22))) := A2.out.alloc A2.out.size _
   go_wp2_with fail
   refine (laid y1.heap.size 5 [⟨some ⟨x2.heap.size, 0, none⟩, 2, 2⟩, c, s, ⟨some ⟨g4, 0, none⟩, 4, c4⟩, k] [[102, id], cn, sn, putN tick 4, ck] 5 (y1.alloc (.cells #[.slice (some ⟨x2.heap.size, 0, none⟩) 2 2, .slice c.a c.n c.c, .slice s.a s.n s.c, .slice (some ⟨g4, 0, none⟩) 4 c4, .slice k.a k.n k.c] 22)) rfl P5.out (by rw [HQ.out, HRL.out]; omega) (by omega)).mono ?_
   rw [HQ.out]
   rintro e y2 ⟨g5, m5, c5, rfl, em, kg, rr, b⟩
   have R5 := hid (rr)
   have E5 : Hid (m5 = R.length) := em
   have G5 : Hid (w.heap.size ≤ g5) := Nat.le_trans A3.out.size kg
   have B5 := hid (A3.out.trans (b.mono A3.out.size))
   clear em kg rr b P5 A3
   go_wp2
   go_ret
   exact ⟨⟨some ⟨g5, 0, none⟩, m5, c5⟩, rfl, SOwn.row R5.out E5.out HRB.out G5.out R5.out.lt, B5.out⟩
end Go.Proofs.YtpenhliaelhnoaaGreatDoor.KeI
