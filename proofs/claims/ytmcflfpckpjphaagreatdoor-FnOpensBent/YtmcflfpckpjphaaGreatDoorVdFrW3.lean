/-
  The words of impl's frames; which are sealed.
-/
import Derived.Test.YtmcflfpckpjphaaGreatDoorVdFrW2
import Derived.Test.YtmcflfpckpjphaaGreatDoorVdFrT
import Derived.Deep.RegionHeld3
set_option maxRecDepth 100000
namespace Go.Proofs.YtmcflfpckpjphaaGreatDoor.FrW3
open Go.RowKit Mem Blk Words Zone Res FrZ FrP FrW FrW2 FrT

set_option maxHeartbeats 1600000 in
theorem wordOf1 (id : Int) (cn sn : Sl) (tick : Int) (cookie proof : Sl) (epoch seq : Int) (body tag : Sl) (w : World) :
  Calls Tryz.prog 69 #[.agg #[.int .i64 1, .int .i64 id, .slice cn.a cn.n cn.c, .slice sn.a sn.n sn.c, .int .i64 tick, .slice cookie.a cookie.n cookie.c, .slice proof.a proof.n proof.c, .int .i64 epoch, .int .i64 seq, .slice body.a body.n body.c, .slice tag.a tag.n tag.c]] w fun e w' => e = .returned (.iface 122 (.agg #[.int .i64 id, .slice cn.a cn.n cn.c])) ∧ Below w.heap.size w w' := by
 obtain ⟨x0, hx0⟩ : ∃ x0, w.alloc (.cells #[.int .i64 1, .int .i64 id, .slice cn.a cn.n cn.c, .slice sn.a sn.n sn.c, .int .i64 tick, .slice cookie.a cookie.n cookie.c, .slice proof.a proof.n proof.c, .int .i64 epoch, .int .i64 seq, .slice body.a body.n body.c, .slice tag.a tag.n tag.c] 27) = x0 := ⟨_, rfl⟩
 have HW0 := hid (hx0)
 have B0 : Hid (Below w.heap.size w x0) := by rw [← hx0]; exact (Below.refl _ _).alloc (Nat.le_refl _) _
 have K0 : Hid (Blk x0 w.heap.size 27 [.int .i64 1, .int .i64 id, .slice cn.a cn.n cn.c, .slice sn.a sn.n sn.c, .int .i64 tick, .slice cookie.a cookie.n cookie.c, .slice proof.a proof.n proof.c, .int .i64 epoch, .int .i64 seq, .slice body.a body.n body.c, .slice tag.a tag.n tag.c]) := by rw [← hx0]; exact Blk.new w _ _
 clear hx0
 go_enter Tryz.func69, Tryz.ntmps69
 go_wp2
 rw [HW0.out]
 go_ret
 exact ⟨by simp, B0.out⟩

set_option maxHeartbeats 1600000 in
theorem wordOf2 (id : Int) (cn sn : Sl) (tick : Int) (cookie proof : Sl) (epoch seq : Int) (body tag : Sl) (w : World) :
  Calls Tryz.prog 69 #[.agg #[.int .i64 2, .int .i64 id, .slice cn.a cn.n cn.c, .slice sn.a sn.n sn.c, .int .i64 tick, .slice cookie.a cookie.n cookie.c, .slice proof.a proof.n proof.c, .int .i64 epoch, .int .i64 seq, .slice body.a body.n body.c, .slice tag.a tag.n tag.c]] w fun e w' => e = .returned (.iface 124 (.agg #[.slice cn.a cn.n cn.c, .slice sn.a sn.n sn.c, .int .i64 tick, .slice cookie.a cookie.n cookie.c])) ∧ Below w.heap.size w w' := by
 obtain ⟨x0, hx0⟩ : ∃ x0, w.alloc (.cells #[.int .i64 2, .int .i64 id, .slice cn.a cn.n cn.c, .slice sn.a sn.n sn.c, .int .i64 tick, .slice cookie.a cookie.n cookie.c, .slice proof.a proof.n proof.c, .int .i64 epoch, .int .i64 seq, .slice body.a body.n body.c, .slice tag.a tag.n tag.c] 27) = x0 := ⟨_, rfl⟩
 have HW0 := hid (hx0)
 have B0 : Hid (Below w.heap.size w x0) := by rw [← hx0]; exact (Below.refl _ _).alloc (Nat.le_refl _) _
 have K0 : Hid (Blk x0 w.heap.size 27 [.int .i64 2, .int .i64 id, .slice cn.a cn.n cn.c, .slice sn.a sn.n sn.c, .int .i64 tick, .slice cookie.a cookie.n cookie.c, .slice proof.a proof.n proof.c, .int .i64 epoch, .int .i64 seq, .slice body.a body.n body.c, .slice tag.a tag.n tag.c]) := by rw [← hx0]; exact Blk.new w _ _
 clear hx0
 go_enter Tryz.func69, Tryz.ntmps69
 go_wp2_with fail
 rw [HW0.out]
 refine (cookieOf 2 id cn sn tick cookie proof epoch seq body tag x0).mono ?_
 rintro e x1 ⟨rfl, b1⟩
 have B1 := hid (B0.out.trans (b1.mono B0.out.size))
 clear b1
 go_wp2
 go_ret
 exact ⟨by simp, B1.out⟩

set_option maxHeartbeats 1600000 in
theorem wordOf3 (id : Int) (cn sn : Sl) (tick : Int) (cookie proof : Sl) (epoch seq : Int) (body tag : Sl) (w : World) :
  Calls Tryz.prog 69 #[.agg #[.int .i64 3, .int .i64 id, .slice cn.a cn.n cn.c, .slice sn.a sn.n sn.c, .int .i64 tick, .slice cookie.a cookie.n cookie.c, .slice proof.a proof.n proof.c, .int .i64 epoch, .int .i64 seq, .slice body.a body.n body.c, .slice tag.a tag.n tag.c]] w fun e w' => e = .returned (.iface 127 (.agg #[.int .i64 id, .slice cn.a cn.n cn.c, .slice sn.a sn.n sn.c, .int .i64 tick, .slice cookie.a cookie.n cookie.c, .slice proof.a proof.n proof.c])) ∧ Below w.heap.size w w' := by
 obtain ⟨x0, hx0⟩ : ∃ x0, w.alloc (.cells #[.int .i64 3, .int .i64 id, .slice cn.a cn.n cn.c, .slice sn.a sn.n sn.c, .int .i64 tick, .slice cookie.a cookie.n cookie.c, .slice proof.a proof.n proof.c, .int .i64 epoch, .int .i64 seq, .slice body.a body.n body.c, .slice tag.a tag.n tag.c] 27) = x0 := ⟨_, rfl⟩
 have HW0 := hid (hx0)
 have B0 : Hid (Below w.heap.size w x0) := by rw [← hx0]; exact (Below.refl _ _).alloc (Nat.le_refl _) _
 have K0 : Hid (Blk x0 w.heap.size 27 [.int .i64 3, .int .i64 id, .slice cn.a cn.n cn.c, .slice sn.a sn.n sn.c, .int .i64 tick, .slice cookie.a cookie.n cookie.c, .slice proof.a proof.n proof.c, .int .i64 epoch, .int .i64 seq, .slice body.a body.n body.c, .slice tag.a tag.n tag.c]) := by rw [← hx0]; exact Blk.new w _ _
 clear hx0
 go_enter Tryz.func69, Tryz.ntmps69
 go_upto_region 7 with fail
 rw [HW0.out]
 generalize hga : w.heap.size = ga at K0 ⊢
 obtain ⟨c0, c1, c2, c3, c4, c5, c6, c7, c8, c9, c10⟩ := cells11 K0.out
 go_region_held3 (fun w' => w'.cell? ⟨ga, 0, none⟩ = some (.int .i64 3) ∧ w'.cell? ⟨ga, 1, none⟩ = some (.int .i64 id) ∧ w'.cell? ⟨ga, 2, none⟩ = some (.slice cn.a cn.n cn.c) ∧ w'.cell? ⟨ga, 3, none⟩ = some (.slice sn.a sn.n sn.c) ∧ w'.cell? ⟨ga, 4, none⟩ = some (.int .i64 tick) ∧ w'.cell? ⟨ga, 5, none⟩ = some (.slice cookie.a cookie.n cookie.c) ∧ w'.cell? ⟨ga, 6, none⟩ = some (.slice proof.a proof.n proof.c) ∧ w'.cell? ⟨ga, 7, none⟩ = some (.int .i64 epoch) ∧ w'.cell? ⟨ga, 8, none⟩ = some (.int .i64 seq) ∧ w'.cell? ⟨ga, 9, none⟩ = some (.slice body.a body.n body.c) ∧ w'.cell? ⟨ga, 10, none⟩ = some (.slice tag.a tag.n tag.c)) (first | exact ⟨p0, p1, p2, p3, p4, p5, p6, p7, p8, p9, p10⟩ | exact ⟨c0, c1, c2, c3, c4, c5, c6, c7, c8, c9, c10⟩ | go_keep)
  ((go_at_call 109; refine (cookieOf 3 id cn sn tick cookie proof epoch seq body tag x0.drew).mono ?_; rintro e x1 ⟨rfl, b1⟩; have B1 := hid ((B0.out.drew.trans (b1.mono B0.out.size))); have p0 := (Blk.later (w := x0.drew) K0.out b1).cell 0 rfl; have p1 := (Blk.later (w := x0.drew) K0.out b1).cell 1 rfl; have p2 := (Blk.later (w := x0.drew) K0.out b1).cell 2 rfl; have p3 := (Blk.later (w := x0.drew) K0.out b1).cell 3 rfl; have p4 := (Blk.later (w := x0.drew) K0.out b1).cell 4 rfl; have p5 := (Blk.later (w := x0.drew) K0.out b1).cell 5 rfl; have p6 := (Blk.later (w := x0.drew) K0.out b1).cell 6 rfl; have p7 := (Blk.later (w := x0.drew) K0.out b1).cell 7 rfl; have p8 := (Blk.later (w := x0.drew) K0.out b1).cell 8 rfl; have p9 := (Blk.later (w := x0.drew) K0.out b1).cell 9 rfl; have p10 := (Blk.later (w := x0.drew) K0.out b1).cell 10 rfl))
 go_wp2
 go_ret
 exact ⟨by simp, hga ▸ B1.out⟩

set_option maxHeartbeats 1600000 in
theorem wordOf4 (id : Int) (cn sn : Sl) (tick : Int) (cookie proof : Sl) (epoch seq : Int) (body tag : Sl) (w : World) :
  Calls Tryz.prog 69 #[.agg #[.int .i64 4, .int .i64 id, .slice cn.a cn.n cn.c, .slice sn.a sn.n sn.c, .int .i64 tick, .slice cookie.a cookie.n cookie.c, .slice proof.a proof.n proof.c, .int .i64 epoch, .int .i64 seq, .slice body.a body.n body.c, .slice tag.a tag.n tag.c]] w fun e w' => e = .returned (.iface 132 (.agg #[.slice sn.a sn.n sn.c, .int .i64 epoch, .int .i64 seq, .slice tag.a tag.n tag.c, .slice body.a body.n body.c])) ∧ Below w.heap.size w w' := by
 obtain ⟨x0, hx0⟩ : ∃ x0, w.alloc (.cells #[.int .i64 4, .int .i64 id, .slice cn.a cn.n cn.c, .slice sn.a sn.n sn.c, .int .i64 tick, .slice cookie.a cookie.n cookie.c, .slice proof.a proof.n proof.c, .int .i64 epoch, .int .i64 seq, .slice body.a body.n body.c, .slice tag.a tag.n tag.c] 27) = x0 := ⟨_, rfl⟩
 have HW0 := hid (hx0)
 have B0 : Hid (Below w.heap.size w x0) := by rw [← hx0]; exact (Below.refl _ _).alloc (Nat.le_refl _) _
 have K0 : Hid (Blk x0 w.heap.size 27 [.int .i64 4, .int .i64 id, .slice cn.a cn.n cn.c, .slice sn.a sn.n sn.c, .int .i64 tick, .slice cookie.a cookie.n cookie.c, .slice proof.a proof.n proof.c, .int .i64 epoch, .int .i64 seq, .slice body.a body.n body.c, .slice tag.a tag.n tag.c]) := by rw [← hx0]; exact Blk.new w _ _
 clear hx0
 go_enter Tryz.func69, Tryz.ntmps69
 go_wp2_with fail
 rw [HW0.out]
 refine (sealedOf 4 id cn sn tick cookie proof epoch seq body tag x0).mono ?_
 rintro e x1 ⟨rfl, b1⟩
 have B1 := hid (B0.out.trans (b1.mono B0.out.size))
 clear b1
 go_wp2
 go_ret
 exact ⟨by simp, B1.out⟩

set_option maxHeartbeats 1600000 in
theorem wordOf5 (id : Int) (cn sn : Sl) (tick : Int) (cookie proof : Sl) (epoch seq : Int) (body tag : Sl) (w : World) :
  Calls Tryz.prog 69 #[.agg #[.int .i64 5, .int .i64 id, .slice cn.a cn.n cn.c, .slice sn.a sn.n sn.c, .int .i64 tick, .slice cookie.a cookie.n cookie.c, .slice proof.a proof.n proof.c, .int .i64 epoch, .int .i64 seq, .slice body.a body.n body.c, .slice tag.a tag.n tag.c]] w fun e w' => e = .returned (.iface 133 (.agg #[.slice sn.a sn.n sn.c, .int .i64 epoch, .int .i64 seq, .slice tag.a tag.n tag.c, .slice body.a body.n body.c])) ∧ Below w.heap.size w w' := by
 obtain ⟨x0, hx0⟩ : ∃ x0, w.alloc (.cells #[.int .i64 5, .int .i64 id, .slice cn.a cn.n cn.c, .slice sn.a sn.n sn.c, .int .i64 tick, .slice cookie.a cookie.n cookie.c, .slice proof.a proof.n proof.c, .int .i64 epoch, .int .i64 seq, .slice body.a body.n body.c, .slice tag.a tag.n tag.c] 27) = x0 := ⟨_, rfl⟩
 have HW0 := hid (hx0)
 have B0 : Hid (Below w.heap.size w x0) := by rw [← hx0]; exact (Below.refl _ _).alloc (Nat.le_refl _) _
 have K0 : Hid (Blk x0 w.heap.size 27 [.int .i64 5, .int .i64 id, .slice cn.a cn.n cn.c, .slice sn.a sn.n sn.c, .int .i64 tick, .slice cookie.a cookie.n cookie.c, .slice proof.a proof.n proof.c, .int .i64 epoch, .int .i64 seq, .slice body.a body.n body.c, .slice tag.a tag.n tag.c]) := by rw [← hx0]; exact Blk.new w _ _
 clear hx0
 go_enter Tryz.func69, Tryz.ntmps69
 go_wp2_with fail
 rw [HW0.out]
 refine (sealedOf 5 id cn sn tick cookie proof epoch seq body tag x0).mono ?_
 rintro e x1 ⟨rfl, b1⟩
 have B1 := hid (B0.out.trans (b1.mono B0.out.size))
 clear b1
 go_wp2
 go_ret
 exact ⟨by simp, B1.out⟩

set_option maxHeartbeats 1600000 in
theorem wordOf6 (id : Int) (cn sn : Sl) (tick : Int) (cookie proof : Sl) (epoch seq : Int) (body tag : Sl) (w : World) :
  Calls Tryz.prog 69 #[.agg #[.int .i64 6, .int .i64 id, .slice cn.a cn.n cn.c, .slice sn.a sn.n sn.c, .int .i64 tick, .slice cookie.a cookie.n cookie.c, .slice proof.a proof.n proof.c, .int .i64 epoch, .int .i64 seq, .slice body.a body.n body.c, .slice tag.a tag.n tag.c]] w fun e w' => e = .returned (.iface 134 (.agg #[.slice sn.a sn.n sn.c, .int .i64 epoch, .int .i64 seq, .slice tag.a tag.n tag.c, .slice body.a body.n body.c])) ∧ Below w.heap.size w w' := by
 obtain ⟨x0, hx0⟩ : ∃ x0, w.alloc (.cells #[.int .i64 6, .int .i64 id, .slice cn.a cn.n cn.c, .slice sn.a sn.n sn.c, .int .i64 tick, .slice cookie.a cookie.n cookie.c, .slice proof.a proof.n proof.c, .int .i64 epoch, .int .i64 seq, .slice body.a body.n body.c, .slice tag.a tag.n tag.c] 27) = x0 := ⟨_, rfl⟩
 have HW0 := hid (hx0)
 have B0 : Hid (Below w.heap.size w x0) := by rw [← hx0]; exact (Below.refl _ _).alloc (Nat.le_refl _) _
 have K0 : Hid (Blk x0 w.heap.size 27 [.int .i64 6, .int .i64 id, .slice cn.a cn.n cn.c, .slice sn.a sn.n sn.c, .int .i64 tick, .slice cookie.a cookie.n cookie.c, .slice proof.a proof.n proof.c, .int .i64 epoch, .int .i64 seq, .slice body.a body.n body.c, .slice tag.a tag.n tag.c]) := by rw [← hx0]; exact Blk.new w _ _
 clear hx0
 go_enter Tryz.func69, Tryz.ntmps69
 go_wp2_with fail
 rw [HW0.out]
 refine (sealedOf 6 id cn sn tick cookie proof epoch seq body tag x0).mono ?_
 rintro e x1 ⟨rfl, b1⟩
 have B1 := hid (B0.out.trans (b1.mono B0.out.size))
 clear b1
 go_wp2
 go_ret
 exact ⟨by simp, B1.out⟩

set_option maxHeartbeats 1600000 in
theorem wordOf7 (id : Int) (cn sn : Sl) (tick : Int) (cookie proof : Sl) (epoch seq : Int) (body tag : Sl) (w : World) :
  Calls Tryz.prog 69 #[.agg #[.int .i64 7, .int .i64 id, .slice cn.a cn.n cn.c, .slice sn.a sn.n sn.c, .int .i64 tick, .slice cookie.a cookie.n cookie.c, .slice proof.a proof.n proof.c, .int .i64 epoch, .int .i64 seq, .slice body.a body.n body.c, .slice tag.a tag.n tag.c]] w fun e w' => e = .returned (.iface 135 (.agg #[.slice sn.a sn.n sn.c, .int .i64 epoch, .int .i64 seq, .slice tag.a tag.n tag.c, .slice body.a body.n body.c])) ∧ Below w.heap.size w w' := by
 obtain ⟨x0, hx0⟩ : ∃ x0, w.alloc (.cells #[.int .i64 7, .int .i64 id, .slice cn.a cn.n cn.c, .slice sn.a sn.n sn.c, .int .i64 tick, .slice cookie.a cookie.n cookie.c, .slice proof.a proof.n proof.c, .int .i64 epoch, .int .i64 seq, .slice body.a body.n body.c, .slice tag.a tag.n tag.c] 27) = x0 := ⟨_, rfl⟩
 have HW0 := hid (hx0)
 have B0 : Hid (Below w.heap.size w x0) := by rw [← hx0]; exact (Below.refl _ _).alloc (Nat.le_refl _) _
 have K0 : Hid (Blk x0 w.heap.size 27 [.int .i64 7, .int .i64 id, .slice cn.a cn.n cn.c, .slice sn.a sn.n sn.c, .int .i64 tick, .slice cookie.a cookie.n cookie.c, .slice proof.a proof.n proof.c, .int .i64 epoch, .int .i64 seq, .slice body.a body.n body.c, .slice tag.a tag.n tag.c]) := by rw [← hx0]; exact Blk.new w _ _
 clear hx0
 go_enter Tryz.func69, Tryz.ntmps69
 go_wp2_with fail
 rw [HW0.out]
 refine (sealedOf 7 id cn sn tick cookie proof epoch seq body tag x0).mono ?_
 rintro e x1 ⟨rfl, b1⟩
 have B1 := hid (B0.out.trans (b1.mono B0.out.size))
 clear b1
 go_wp2
 go_ret
 exact ⟨by simp, B1.out⟩

set_option maxHeartbeats 1600000 in
theorem wordOf8 (id : Int) (cn sn : Sl) (tick : Int) (cookie proof : Sl) (epoch seq : Int) (body tag : Sl) (w : World) :
  Calls Tryz.prog 69 #[.agg #[.int .i64 8, .int .i64 id, .slice cn.a cn.n cn.c, .slice sn.a sn.n sn.c, .int .i64 tick, .slice cookie.a cookie.n cookie.c, .slice proof.a proof.n proof.c, .int .i64 epoch, .int .i64 seq, .slice body.a body.n body.c, .slice tag.a tag.n tag.c]] w fun e w' => e = .returned (.iface 136 (.agg #[.slice sn.a sn.n sn.c, .int .i64 epoch, .int .i64 seq, .slice tag.a tag.n tag.c, .slice body.a body.n body.c])) ∧ Below w.heap.size w w' := by
 obtain ⟨x0, hx0⟩ : ∃ x0, w.alloc (.cells #[.int .i64 8, .int .i64 id, .slice cn.a cn.n cn.c, .slice sn.a sn.n sn.c, .int .i64 tick, .slice cookie.a cookie.n cookie.c, .slice proof.a proof.n proof.c, .int .i64 epoch, .int .i64 seq, .slice body.a body.n body.c, .slice tag.a tag.n tag.c] 27) = x0 := ⟨_, rfl⟩
 have HW0 := hid (hx0)
 have B0 : Hid (Below w.heap.size w x0) := by rw [← hx0]; exact (Below.refl _ _).alloc (Nat.le_refl _) _
 have K0 : Hid (Blk x0 w.heap.size 27 [.int .i64 8, .int .i64 id, .slice cn.a cn.n cn.c, .slice sn.a sn.n sn.c, .int .i64 tick, .slice cookie.a cookie.n cookie.c, .slice proof.a proof.n proof.c, .int .i64 epoch, .int .i64 seq, .slice body.a body.n body.c, .slice tag.a tag.n tag.c]) := by rw [← hx0]; exact Blk.new w _ _
 clear hx0
 go_enter Tryz.func69, Tryz.ntmps69
 go_wp2_with fail
 rw [HW0.out]
 refine (sealedOf 8 id cn sn tick cookie proof epoch seq body tag x0).mono ?_
 rintro e x1 ⟨rfl, b1⟩
 have B1 := hid (B0.out.trans (b1.mono B0.out.size))
 clear b1
 go_wp2
 go_ret
 exact ⟨by simp, B1.out⟩

set_option maxHeartbeats 1600000 in
theorem wordOf0 (kind id : Int) (cn sn : Sl) (tick : Int) (cookie proof : Sl) (epoch seq : Int) (body tag : Sl) (h1 : (kind == 1) = false) (h2 : (kind == 2) = false) (h3 : (kind == 3) = false) (h4 : (kind == 4) = false) (h5 : (kind == 5) = false) (h6 : (kind == 6) = false) (h7 : (kind == 7) = false) (h8 : (kind == 8) = false) (w : World) :
  Calls Tryz.prog 69 #[.agg #[.int .i64 kind, .int .i64 id, .slice cn.a cn.n cn.c, .slice sn.a sn.n sn.c, .int .i64 tick, .slice cookie.a cookie.n cookie.c, .slice proof.a proof.n proof.c, .int .i64 epoch, .int .i64 seq, .slice body.a body.n body.c, .slice tag.a tag.n tag.c]] w fun e w' => e = .returned (.nilIface) ∧ Below w.heap.size w w' := by
 obtain ⟨x0, hx0⟩ : ∃ x0, w.alloc (.cells #[.int .i64 kind, .int .i64 id, .slice cn.a cn.n cn.c, .slice sn.a sn.n sn.c, .int .i64 tick, .slice cookie.a cookie.n cookie.c, .slice proof.a proof.n proof.c, .int .i64 epoch, .int .i64 seq, .slice body.a body.n body.c, .slice tag.a tag.n tag.c] 27) = x0 := ⟨_, rfl⟩
 have HW0 := hid (hx0)
 have B0 : Hid (Below w.heap.size w x0) := by rw [← hx0]; exact (Below.refl _ _).alloc (Nat.le_refl _) _
 have K0 : Hid (Blk x0 w.heap.size 27 [.int .i64 kind, .int .i64 id, .slice cn.a cn.n cn.c, .slice sn.a sn.n sn.c, .int .i64 tick, .slice cookie.a cookie.n cookie.c, .slice proof.a proof.n proof.c, .int .i64 epoch, .int .i64 seq, .slice body.a body.n body.c, .slice tag.a tag.n tag.c]) := by rw [← hx0]; exact Blk.new w _ _
 clear hx0
 go_enter Tryz.func69, Tryz.ntmps69
 go_wp2
 rw [HW0.out]
 go_ret
 exact ⟨by simp, B0.out⟩

set_option maxHeartbeats 800000 in
theorem isSealed1 (id : Int) (cn : Sl) (w : World) :
  Calls Tryz.prog 146 #[.iface 122 (.agg #[.int .i64 id, .slice cn.a cn.n cn.c])] w fun e w' => e = .returned (.bool false) ∧ w = w' := by
 have t4 := as1_4
 have t5 := as1_5
 have t6 := as1_6
 have t7 := as1_7
 have t8 := as1_8
 go_enter Tryz.func146, Tryz.ntmps146
 go_wp2
 go_ret
 exact ⟨by simp, rfl⟩

set_option maxHeartbeats 800000 in
theorem isSealed2 (cn sn : Sl) (tick : Int) (cookie : Sl) (w : World) :
  Calls Tryz.prog 146 #[.iface 124 (.agg #[.slice cn.a cn.n cn.c, .slice sn.a sn.n sn.c, .int .i64 tick, .slice cookie.a cookie.n cookie.c])] w fun e w' => e = .returned (.bool false) ∧ w = w' := by
 have t4 := as2_4
 have t5 := as2_5
 have t6 := as2_6
 have t7 := as2_7
 have t8 := as2_8
 go_enter Tryz.func146, Tryz.ntmps146
 go_wp2
 go_ret
 exact ⟨by simp, rfl⟩

set_option maxHeartbeats 800000 in
theorem isSealed3 (id : Int) (cn sn : Sl) (tick : Int) (cookie proof : Sl) (w : World) :
  Calls Tryz.prog 146 #[.iface 127 (.agg #[.int .i64 id, .slice cn.a cn.n cn.c, .slice sn.a sn.n sn.c, .int .i64 tick, .slice cookie.a cookie.n cookie.c, .slice proof.a proof.n proof.c])] w fun e w' => e = .returned (.bool false) ∧ w = w' := by
 have t4 := as3_4
 have t5 := as3_5
 have t6 := as3_6
 have t7 := as3_7
 have t8 := as3_8
 go_enter Tryz.func146, Tryz.ntmps146
 go_wp2
 go_ret
 exact ⟨by simp, rfl⟩

set_option maxHeartbeats 800000 in
theorem isSealed4 (sn : Sl) (epoch seq : Int) (tag body : Sl) (w : World) :
  Calls Tryz.prog 146 #[.iface 132 (.agg #[.slice sn.a sn.n sn.c, .int .i64 epoch, .int .i64 seq, .slice tag.a tag.n tag.c, .slice body.a body.n body.c])] w fun e w' => e = .returned (.bool true) ∧ w = w' := by
 have t4 := as4_4
 have t5 := as4_5
 have t6 := as4_6
 have t7 := as4_7
 have t8 := as4_8
 go_enter Tryz.func146, Tryz.ntmps146
 go_wp2
 go_ret
 exact ⟨by simp, rfl⟩

set_option maxHeartbeats 800000 in
theorem isSealed5 (sn : Sl) (epoch seq : Int) (tag body : Sl) (w : World) :
  Calls Tryz.prog 146 #[.iface 133 (.agg #[.slice sn.a sn.n sn.c, .int .i64 epoch, .int .i64 seq, .slice tag.a tag.n tag.c, .slice body.a body.n body.c])] w fun e w' => e = .returned (.bool true) ∧ w = w' := by
 have t4 := as5_4
 have t5 := as5_5
 have t6 := as5_6
 have t7 := as5_7
 have t8 := as5_8
 go_enter Tryz.func146, Tryz.ntmps146
 go_wp2
 go_ret
 exact ⟨by simp, rfl⟩

set_option maxHeartbeats 800000 in
theorem isSealed6 (sn : Sl) (epoch seq : Int) (tag body : Sl) (w : World) :
  Calls Tryz.prog 146 #[.iface 134 (.agg #[.slice sn.a sn.n sn.c, .int .i64 epoch, .int .i64 seq, .slice tag.a tag.n tag.c, .slice body.a body.n body.c])] w fun e w' => e = .returned (.bool true) ∧ w = w' := by
 have t4 := as6_4
 have t5 := as6_5
 have t6 := as6_6
 have t7 := as6_7
 have t8 := as6_8
 go_enter Tryz.func146, Tryz.ntmps146
 go_wp2
 go_ret
 exact ⟨by simp, rfl⟩

set_option maxHeartbeats 800000 in
theorem isSealed7 (sn : Sl) (epoch seq : Int) (tag body : Sl) (w : World) :
  Calls Tryz.prog 146 #[.iface 135 (.agg #[.slice sn.a sn.n sn.c, .int .i64 epoch, .int .i64 seq, .slice tag.a tag.n tag.c, .slice body.a body.n body.c])] w fun e w' => e = .returned (.bool true) ∧ w = w' := by
 have t4 := as7_4
 have t5 := as7_5
 have t6 := as7_6
 have t7 := as7_7
 have t8 := as7_8
 go_enter Tryz.func146, Tryz.ntmps146
 go_wp2
 go_ret
 exact ⟨by simp, rfl⟩

set_option maxHeartbeats 800000 in
theorem isSealed8 (sn : Sl) (epoch seq : Int) (tag body : Sl) (w : World) :
  Calls Tryz.prog 146 #[.iface 136 (.agg #[.slice sn.a sn.n sn.c, .int .i64 epoch, .int .i64 seq, .slice tag.a tag.n tag.c, .slice body.a body.n body.c])] w fun e w' => e = .returned (.bool true) ∧ w = w' := by
 have t4 := as8_4
 have t5 := as8_5
 have t6 := as8_6
 have t7 := as8_7
 have t8 := as8_8
 go_enter Tryz.func146, Tryz.ntmps146
 go_wp2
 go_ret
 exact ⟨by simp, rfl⟩

set_option maxHeartbeats 800000 in
theorem isSealed0 (w : World) :
  Calls Tryz.prog 146 #[.nilIface] w fun e w' => e = .returned (.bool false) ∧ w = w' := by
 have t4 := as0_4
 have t5 := as0_5
 have t6 := as0_6
 have t7 := as0_7
 have t8 := as0_8
 go_enter Tryz.func146, Tryz.ntmps146
 go_wp2
 go_ret
 exact ⟨by simp, rfl⟩

end Go.Proofs.YtmcflfpckpjphaaGreatDoor.FrW3
