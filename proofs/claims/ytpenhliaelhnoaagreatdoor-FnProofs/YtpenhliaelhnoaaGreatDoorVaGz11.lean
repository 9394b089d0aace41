/-
  Closed facts on impl's interface: which word is of which type, and which method a word has.
  The words of impl's frames; which are sealed.
-/
import Derived.Test.YtpenhliaelhnoaaGreatDoorProg
import Derived.WalkKit
import Derived.KernelRfl
import Derived.Test.YtpenhliaelhnoaaGreatDoorVaFrW2
import Derived.Deep.RegionHeld3
set_option linter.unusedVariables false
set_option maxRecDepth 100000
namespace Go.Proofs.YtpenhliaelhnoaaGreatDoor.FrT
open Go.RowKit

theorem ne1 (v : Value) (w : World) : (binOp .neq 63 (.iface 77 v) .nilIface).run Tryz.prog w = .ok (.bool true) w := by kernel_rfl
theorem mr1 (v : Value) (w : World) : (method 240 77 v "loop.example/g00478/impl.right").run Tryz.prog w = .ok (133, v) w := by kernel_rfl
theorem mf1 (v : Value) (w : World) : (method 240 77 v "loop.example/g00478/impl.frame").run Tryz.prog w = .ok (132, v) w := by kernel_rfl
theorem ne2 (v : Value) (w : World) : (binOp .neq 63 (.iface 54 v) .nilIface).run Tryz.prog w = .ok (.bool true) w := by kernel_rfl
theorem mr2 (v : Value) (w : World) : (method 240 54 v "loop.example/g00478/impl.right").run Tryz.prog w = .ok (69, v) w := by kernel_rfl
theorem mf2 (v : Value) (w : World) : (method 240 54 v "loop.example/g00478/impl.frame").run Tryz.prog w = .ok (52, v) w := by kernel_rfl
theorem ne3 (v : Value) (w : World) : (binOp .neq 63 (.iface 57 v) .nilIface).run Tryz.prog w = .ok (.bool true) w := by kernel_rfl
theorem mr3 (v : Value) (w : World) : (method 240 57 v "loop.example/g00478/impl.right").run Tryz.prog w = .ok (131, v) w := by kernel_rfl
theorem mf3 (v : Value) (w : World) : (method 240 57 v "loop.example/g00478/impl.frame").run Tryz.prog w = .ok (33, v) w := by kernel_rfl
theorem ne4 (v : Value) (w : World) : (binOp .neq 63 (.iface 82 v) .nilIface).run Tryz.prog w = .ok (.bool true) w := by kernel_rfl
theorem mr4 (v : Value) (w : World) : (method 240 82 v "loop.example/g00478/impl.right").run Tryz.prog w = .ok (139, v) w := by kernel_rfl
theorem mf4 (v : Value) (w : World) : (method 240 82 v "loop.example/g00478/impl.frame").run Tryz.prog w = .ok (138, v) w := by kernel_rfl
theorem ne5 (v : Value) (w : World) : (binOp .neq 63 (.iface 83 v) .nilIface).run Tryz.prog w = .ok (.bool true) w := by kernel_rfl
theorem mr5 (v : Value) (w : World) : (method 240 83 v "loop.example/g00478/impl.right").run Tryz.prog w = .ok (141, v) w := by kernel_rfl
theorem mf5 (v : Value) (w : World) : (method 240 83 v "loop.example/g00478/impl.frame").run Tryz.prog w = .ok (140, v) w := by kernel_rfl
theorem ne6 (v : Value) (w : World) : (binOp .neq 63 (.iface 84 v) .nilIface).run Tryz.prog w = .ok (.bool true) w := by kernel_rfl
theorem mr6 (v : Value) (w : World) : (method 240 84 v "loop.example/g00478/impl.right").run Tryz.prog w = .ok (143, v) w := by kernel_rfl
theorem mf6 (v : Value) (w : World) : (method 240 84 v "loop.example/g00478/impl.frame").run Tryz.prog w = .ok (142, v) w := by kernel_rfl
theorem ne7 (v : Value) (w : World) : (binOp .neq 63 (.iface 85 v) .nilIface).run Tryz.prog w = .ok (.bool true) w := by kernel_rfl
theorem mr7 (v : Value) (w : World) : (method 240 85 v "loop.example/g00478/impl.right").run Tryz.prog w = .ok (145, v) w := by kernel_rfl
theorem mf7 (v : Value) (w : World) : (method 240 85 v "loop.example/g00478/impl.frame").run Tryz.prog w = .ok (144, v) w := by kernel_rfl
theorem ne8 (v : Value) (w : World) : (binOp .neq 63 (.iface 86 v) .nilIface).run Tryz.prog w = .ok (.bool true) w := by kernel_rfl
theorem mr8 (v : Value) (w : World) : (method 240 86 v "loop.example/g00478/impl.right").run Tryz.prog w = .ok (147, v) w := by kernel_rfl
theorem mf8 (v : Value) (w : World) : (method 240 86 v "loop.example/g00478/impl.frame").run Tryz.prog w = .ok (146, v) w := by kernel_rfl
theorem ne0 (w : World) : (binOp .neq 63 .nilIface .nilIface).run Tryz.prog w = .ok (.bool false) w := by kernel_rfl
end Go.Proofs.YtpenhliaelhnoaaGreatDoor.FrT

namespace Go.Proofs.YtpenhliaelhnoaaGreatDoor.FrW3
open Go.RowKit Mem Blk Words Zone Res FrZ FrP FrW FrW2 FrT

set_option maxHeartbeats 1600000 in
theorem wordOf1 (id : Int) (cn sn : Sl) (tick : Int) (cookie proof : Sl) (epoch seq : Int) (body tag : Sl) (w : World) :
  Calls Tryz.prog 42 #[.agg #[.int .i64 1, .int .i64 id, .slice cn.a cn.n cn.c, .slice sn.a sn.n sn.c, .int .i64 tick, .slice cookie.a cookie.n cookie.c, .slice proof.a proof.n proof.c, .int .i64 epoch, .int .i64 seq, .slice body.a body.n body.c, .slice tag.a tag.n tag.c]] w fun e w' => e = .returned (.iface 77 (.agg #[.int .i64 id, .slice cn.a cn.n cn.c])) ∧ Below w.heap.size w w' := by
 obtain ⟨x0, hx0⟩ : ∃ x0, w.alloc (.cells #[.int .i64 1, .int .i64 id, .slice cn.a cn.n cn.c, .slice sn.a sn.n sn.c, .int .i64 tick, .slice cookie.a cookie.n cookie.c, .slice proof.a proof.n proof.c, .int .i64 epoch, .int .i64 seq, .slice body.a body.n body.c, .slice tag.a tag.n tag.c] 25) = x0 := ⟨_, rfl⟩
 have HW0 := hid (hx0)
 have B0 : Hid (Below w.heap.size w x0) := by rw [← hx0]; exact (Below.refl _ _).alloc (Nat.le_refl _) _
 have K0 : Hid (Blk x0 w.heap.size 25 [.int .i64 1, .int .i64 id, .slice cn.a cn.n cn.c, .slice sn.a sn.n sn.c, .int .i64 tick, .slice cookie.a cookie.n cookie.c, .slice proof.a proof.n proof.c, .int .i64 epoch, .int .i64 seq, .slice body.a body.n body.c, .slice tag.a tag.n tag.c]) := by rw [← hx0]; exact Blk.new w _ _
 clear hx0
 go_enter Tryz.func42, Tryz.ntmps42
 go_wp2
 rw [HW0.out]
 go_ret
 exact ⟨by simp, B0.out⟩

set_option maxHeartbeats 1600000 in
theorem wordOf2 (id : Int) (cn sn : Sl) (tick : Int) (cookie proof : Sl) (epoch seq : Int) (body tag : Sl) (w : World) :
  Calls Tryz.prog 42 #[.agg #[.int .i64 2, .int .i64 id, .slice cn.a cn.n cn.c, .slice sn.a sn.n sn.c, .int .i64 tick, .slice cookie.a cookie.n cookie.c, .slice proof.a proof.n proof.c, .int .i64 epoch, .int .i64 seq, .slice body.a body.n body.c, .slice tag.a tag.n tag.c]] w fun e w' => e = .returned (.iface 54 (.agg #[.slice cn.a cn.n cn.c, .slice sn.a sn.n sn.c, .int .i64 tick, .slice cookie.a cookie.n cookie.c])) ∧ Below w.heap.size w w' := by
 obtain ⟨x0, hx0⟩ : ∃ x0, w.alloc (.cells #[.int .i64 2, .int .i64 id, .slice cn.a cn.n cn.c, .slice sn.a sn.n sn.c, .int .i64 tick, .slice cookie.a cookie.n cookie.c, .slice proof.a proof.n proof.c, .int .i64 epoch, .int .i64 seq, .slice body.a body.n body.c, .slice tag.a tag.n tag.c] 25) = x0 := ⟨_, rfl⟩
 have HW0 := hid (hx0)
 have B0 : Hid (Below w.heap.size w x0) := by rw [← hx0]; exact (Below.refl _ _).alloc (Nat.le_refl _) _
 have K0 : Hid (Blk x0 w.heap.size 25 [.int .i64 2, .int .i64 id, .slice cn.a cn.n cn.c, .slice sn.a sn.n sn.c, .int .i64 tick, .slice cookie.a cookie.n cookie.c, .slice proof.a proof.n proof.c, .int .i64 epoch, .int .i64 seq, .slice body.a body.n body.c, .slice tag.a tag.n tag.c]) := by rw [← hx0]; exact Blk.new w _ _
 clear hx0
 go_enter Tryz.func42, Tryz.ntmps42
 go_wp2_with fail
 rw [HW0.out]
 refine (cookieOf 2 id cn sn tick cookie proof epoch seq body tag x0).mono ?_
 rintro e x1 ⟨rfl, b1⟩
 have B1 := hid (B0.out.trans (b1.mono B0.out.size))
 clear b1
 go_wp2
 go_ret
 exact ⟨by simp, B1.out⟩

set_option maxHeartbeats 1600000 in
theorem wordOf3 (id : Int) (cn sn : Sl) (tick : Int) (cookie proof : Sl) (epoch seq : Int) (body tag : Sl) (w : World) :
  Calls Tryz.prog 42 #[.agg #[.int .i64 3, .int .i64 id, .slice cn.a cn.n cn.c, .slice sn.a sn.n sn.c, .int .i64 tick, .slice cookie.a cookie.n cookie.c, .slice proof.a proof.n proof.c, .int .i64 epoch, .int .i64 seq, .slice body.a body.n body.c, .slice tag.a tag.n tag.c]] w fun e w' => e = .returned (.iface 57 (.agg #[.int .i64 id, .slice cn.a cn.n cn.c, .slice sn.a sn.n sn.c, .int .i64 tick, .slice cookie.a cookie.n cookie.c, .slice proof.a proof.n proof.c])) ∧ Below w.heap.size w w' := by
 obtain ⟨x0, hx0⟩ : ∃ x0, w.alloc (.cells #[.int .i64 3, .int .i64 id, .slice cn.a cn.n cn.c, .slice sn.a sn.n sn.c, .int .i64 tick, .slice cookie.a cookie.n cookie.c, .slice proof.a proof.n proof.c, .int .i64 epoch, .int .i64 seq, .slice body.a body.n body.c, .slice tag.a tag.n tag.c] 25) = x0 := ⟨_, rfl⟩
 have HW0 := hid (hx0)
 have B0 : Hid (Below w.heap.size w x0) := by rw [← hx0]; exact (Below.refl _ _).alloc (Nat.le_refl _) _
 have K0 : Hid (Blk x0 w.heap.size 25 [.int .i64 3, .int .i64 id, .slice cn.a cn.n cn.c, .slice sn.a sn.n sn.c, .int .i64 tick, .slice cookie.a cookie.n cookie.c, .slice proof.a proof.n proof.c, .int .i64 epoch, .int .i64 seq, .slice body.a body.n body.c, .slice tag.a tag.n tag.c]) := by rw [← hx0]; exact Blk.new w _ _
 clear hx0
 go_enter Tryz.func42, Tryz.ntmps42
 go_upto_region 7 with fail
 rw [HW0.out]
 generalize hga : w.heap.size = ga at K0 ⊢
 obtain ⟨c0, c1, c2, c3, c4, c5, c6, c7, c8, c9, c10⟩ := cells11 K0.out
 go_region_held3 (fun w' => w'.cell? ⟨ga, 0, none⟩ = some (.int .i64 3) ∧ w'.cell? ⟨ga, 1, none⟩ = some (.int .i64 id) ∧ w'.cell? ⟨ga, 2, none⟩ = some (.slice cn.a cn.n cn.c) ∧ w'.cell? ⟨ga, 3, none⟩ = some (.slice sn.a sn.n sn.c) ∧ w'.cell? ⟨ga, 4, none⟩ = some (.int .i64 tick) ∧ w'.cell? ⟨ga, 5, none⟩ = some (.slice cookie.a cookie.n cookie.c) ∧ w'.cell? ⟨ga, 6, none⟩ = some (.slice proof.a proof.n proof.c) ∧ w'.cell? ⟨ga, 7, none⟩ = some (.int .i64 epoch) ∧ w'.cell? ⟨ga, 8, none⟩ = some (.int .i64 seq) ∧ w'.cell? ⟨ga, 9, none⟩ = some (.slice body.a body.n body.c) ∧ w'.cell? ⟨ga, 10, none⟩ = some (.slice tag.a tag.n tag.c)) (first | exact ⟨p0, p1, p2, p3, p4, p5, p6, p7, p8, p9, p10⟩ | exact ⟨c0, c1, c2, c3, c4, c5, c6, c7, c8, c9, c10⟩ | go_keep)
  ((go_at_call 62; refine (cookieOf 3 id cn sn tick cookie proof epoch seq body tag x0.drew).mono ?_; rintro e x1 ⟨rfl, b1⟩; have B1 := hid ((B0.out.drew.trans (b1.mono B0.out.size))); have p0 := (Blk.later (w := x0.drew) K0.out b1).cell 0 rfl; have p1 := (Blk.later (w := x0.drew) K0.out b1).cell 1 rfl; have p2 := (Blk.later (w := x0.drew) K0.out b1).cell 2 rfl; have p3 := (Blk.later (w := x0.drew) K0.out b1).cell 3 rfl; have p4 := (Blk.later (w := x0.drew) K0.out b1).cell 4 rfl; have p5 := (Blk.later (w := x0.drew) K0.out b1).cell 5 rfl; have p6 := (Blk.later (w := x0.drew) K0.out b1).cell 6 rfl; have p7 := (Blk.later (w := x0.drew) K0.out b1).cell 7 rfl; have p8 := (Blk.later (w := x0.drew) K0.out b1).cell 8 rfl; have p9 := (Blk.later (w := x0.drew) K0.out b1).cell 9 rfl; have p10 := (Blk.later (w := x0.drew) K0.out b1).cell 10 rfl))
 go_wp2
 go_ret
 exact ⟨by simp, hga ▸ B1.out⟩

set_option maxHeartbeats 1600000 in
theorem wordOf4 (id : Int) (cn sn : Sl) (tick : Int) (cookie proof : Sl) (epoch seq : Int) (body tag : Sl) (w : World) :
  Calls Tryz.prog 42 #[.agg #[.int .i64 4, .int .i64 id, .slice cn.a cn.n cn.c, .slice sn.a sn.n sn.c, .int .i64 tick, .slice cookie.a cookie.n cookie.c, .slice proof.a proof.n proof.c, .int .i64 epoch, .int .i64 seq, .slice body.a body.n body.c, .slice tag.a tag.n tag.c]] w fun e w' => e = .returned (.iface 82 (.agg #[.slice sn.a sn.n sn.c, .int .i64 epoch, .int .i64 seq, .slice tag.a tag.n tag.c, .slice body.a body.n body.c])) ∧ Below w.heap.size w w' := by
 obtain ⟨x0, hx0⟩ : ∃ x0, w.alloc (.cells #[.int .i64 4, .int .i64 id, .slice cn.a cn.n cn.c, .slice sn.a sn.n sn.c, .int .i64 tick, .slice cookie.a cookie.n cookie.c, .slice proof.a proof.n proof.c, .int .i64 epoch, .int .i64 seq, .slice body.a body.n body.c, .slice tag.a tag.n tag.c] 25) = x0 := ⟨_, rfl⟩
 have HW0 := hid (hx0)
 have B0 : Hid (Below w.heap.size w x0) := by rw [← hx0]; exact (Below.refl _ _).alloc (Nat.le_refl _) _
 have K0 : Hid (Blk x0 w.heap.size 25 [.int .i64 4, .int .i64 id, .slice cn.a cn.n cn.c, .slice sn.a sn.n sn.c, .int .i64 tick, .slice cookie.a cookie.n cookie.c, .slice proof.a proof.n proof.c, .int .i64 epoch, .int .i64 seq, .slice body.a body.n body.c, .slice tag.a tag.n tag.c]) := by rw [← hx0]; exact Blk.new w _ _
 clear hx0
 go_enter Tryz.func42, Tryz.ntmps42
 go_wp2_with fail
 rw [HW0.out]
 refine (sealedOf 4 id cn sn tick cookie proof epoch seq body tag x0).mono ?_
 rintro e x1 ⟨rfl, b1⟩
 have B1 := hid (B0.out.trans (b1.mono B0.out.size))
 clear b1
 go_wp2
 go_ret
 exact ⟨by simp, B1.out⟩

set_option maxHeartbeats 1600000 in
theorem wordOf5 (id : Int) (cn sn : Sl) (tick : Int) (cookie proof : Sl) (epoch seq : Int) (body tag : Sl) (w : World) :
  Calls Tryz.prog 42 #[.agg #[.int .i64 5, .int .i64 id, .slice cn.a cn.n cn.c, .slice sn.a sn.n sn.c, .int .i64 tick, .slice cookie.a cookie.n cookie.c, .slice proof.a proof.n proof.c, .int .i64 epoch, .int .i64 seq, .slice body.a body.n body.c, .slice tag.a tag.n tag.c]] w fun e w' => e = .returned (.iface 83 (.agg #[.slice sn.a sn.n sn.c, .int .i64 epoch, .int .i64 seq, .slice tag.a tag.n tag.c, .slice body.a body.n body.c])) ∧ Below w.heap.size w w' := by
 obtain ⟨x0, hx0⟩ : ∃ x0, w.alloc (.cells #[.int .i64 5, .int .i64 id, .slice cn.a cn.n cn.c, .slice sn.a sn.n sn.c, .int .i64 tick, .slice cookie.a cookie.n cookie.c, .slice proof.a proof.n proof.c, .int .i64 epoch, .int .i64 seq, .slice body.a body.n body.c, .slice tag.a tag.n tag.c] 25) = x0 := ⟨_, rfl⟩
 have HW0 := hid (hx0)
 have B0 : Hid (Below w.heap.size w x0) := by rw [← hx0]; exact (Below.refl _ _).alloc (Nat.le_refl _) _
 have K0 : Hid (Blk x0 w.heap.size 25 [.int .i64 5, .int .i64 id, .slice cn.a cn.n cn.c, .slice sn.a sn.n sn.c, .int .i64 tick, .slice cookie.a cookie.n cookie.c, .slice proof.a proof.n proof.c, .int .i64 epoch, .int .i64 seq, .slice body.a body.n body.c, .slice tag.a tag.n tag.c]) := by rw [← hx0]; exact Blk.new w _ _
 clear hx0
 go_enter Tryz.func42, Tryz.ntmps42
 go_wp2_with fail
 rw [HW0.out]
 refine (sealedOf 5 id cn sn tick cookie proof epoch seq body tag x0).mono ?_
 rintro e x1 ⟨rfl, b1⟩
 have B1 := hid (B0.out.trans (b1.mono B0.out.size))
 clear b1
 go_wp2
 go_ret
 exact ⟨by simp, B1.out⟩

set_option maxHeartbeats 1600000 in
theorem wordOf6 (id : Int) (cn sn : Sl) (tick : Int) (cookie proof : Sl) (epoch seq : Int) (body tag : Sl) (w : World) :
  Calls Tryz.prog 42 #[.agg #[.int .i64 6, .int .i64 id, .slice cn.a cn.n cn.c, .slice sn.a sn.n sn.c, .int .i64 tick, .slice cookie.a cookie.n cookie.c, .slice proof.a proof.n proof.c, .int .i64 epoch, .int .i64 seq, .slice body.a body.n body.c, .slice tag.a tag.n tag.c]] w fun e w' => e = .returned (.iface 84 (.agg #[.slice sn.a sn.n sn.c, .int .i64 epoch, .int .i64 seq, .slice tag.a tag.n tag.c, .slice body.a body.n body.c])) ∧ Below w.heap.size w w' := by
 obtain ⟨x0, hx0⟩ : ∃ x0, w.alloc (.cells #[.int .i64 6, .int .i64 id, .slice cn.a cn.n cn.c, .slice sn.a sn.n sn.c, .int .i64 tick, .slice cookie.a cookie.n cookie.c, .slice proof.a proof.n proof.c, .int .i64 epoch, .int .i64 seq, .slice body.a body.n body.c, .slice tag.a tag.n tag.c] 25) = x0 := ⟨_, rfl⟩
 have HW0 := hid (hx0)
 have B0 : Hid (Below w.heap.size w x0) := by rw [← hx0]; exact (Below.refl _ _).alloc (Nat.le_refl _) _
 have K0 : Hid (Blk x0 w.heap.size 25 [.int .i64 6, .int .i64 id, .slice cn.a cn.n cn.c, .slice sn.a sn.n sn.c, .int .i64 tick, .slice cookie.a cookie.n cookie.c, .slice proof.a proof.n proof.c, .int .i64 epoch, .int .i64 seq, .slice body.a body.n body.c, .slice tag.a tag.n tag.c]) := by rw [← hx0]; exact Blk.new w _ _
 clear hx0
 go_enter Tryz.func42, Tryz.ntmps42
 go_wp2_with fail
 rw [HW0.out]
 refine (sealedOf 6 id cn sn tick cookie proof epoch seq body tag x0).mono ?_
 rintro e x1 ⟨rfl, b1⟩
 have B1 := hid (B0.out.trans (b1.mono B0.out.size))
 clear b1
 go_wp2
 go_ret
 exact ⟨by simp, B1.out⟩

set_option maxHeartbeats 1600000 in
theorem wordOf7 (id : Int) (cn sn : Sl) (tick : Int) (cookie proof : Sl) (epoch seq : Int) (body tag : Sl) (w : World) :
  Calls Tryz.prog 42 #[.agg #[.int .i64 7, .int .i64 id, .slice cn.a cn.n cn.c, .slice sn.a sn.n sn.c, .int .i64 tick, .slice cookie.a cookie.n cookie.c, .slice proof.a proof.n proof.c, .int .i64 epoch, .int .i64 seq, .slice body.a body.n body.c, .slice tag.a tag.n tag.c]] w fun e w' => e = .returned (.iface 85 (.agg #[.slice sn.a sn.n sn.c, .int .i64 epoch, .int .i64 seq, .slice tag.a tag.n tag.c, .slice body.a body.n body.c])) ∧ Below w.heap.size w w' := by
 obtain ⟨x0, hx0⟩ : ∃ x0, w.alloc (.cells #[.int .i64 7, .int .i64 id, .slice cn.a cn.n cn.c, .slice sn.a sn.n sn.c, .int .i64 tick, .slice cookie.a cookie.n cookie.c, .slice proof.a proof.n proof.c, .int .i64 epoch, .int .i64 seq, .slice body.a body.n body.c, .slice tag.a tag.n tag.c] 25) = x0 := ⟨_, rfl⟩
 have HW0 := hid (hx0)
 have B0 : Hid (Below w.heap.size w x0) := by rw [← hx0]; exact (Below.refl _ _).alloc (Nat.le_refl _) _
 have K0 : Hid (Blk x0 w.heap.size 25 [.int .i64 7, .int .i64 id, .slice cn.a cn.n cn.c, .slice sn.a sn.n sn.c, .int .i64 tick, .slice cookie.a cookie.n cookie.c, .slice proof.a proof.n proof.c, .int .i64 epoch, .int .i64 seq, .slice body.a body.n body.c, .slice tag.a tag.n tag.c]) := by rw [← hx0]; exact Blk.new w _ _
 clear hx0
 go_enter Tryz.func42, Tryz.ntmps42
 go_wp2_with fail
 rw [HW0.out]
 refine (sealedOf 7 id cn sn tick cookie proof epoch seq body tag x0).mono ?_
 rintro e x1 ⟨rfl, b1⟩
 have B1 := hid (B0.out.trans (b1.mono B0.out.size))
 clear b1
 go_wp2
 go_ret
 exact ⟨by simp, B1.out⟩

set_option maxHeartbeats 1600000 in
theorem wordOf8 (id : Int) (cn sn : Sl) (tick : Int) (cookie proof : Sl) (epoch seq : Int) (body tag : Sl) (w : World) :
  Calls Tryz.prog 42 #[.agg #[.int .i64 8, .int .i64 id, .slice cn.a cn.n cn.c, .slice sn.a sn.n sn.c, .int .i64 tick, .slice cookie.a cookie.n cookie.c, .slice proof.a proof.n proof.c, .int .i64 epoch, .int .i64 seq, .slice body.a body.n body.c, .slice tag.a tag.n tag.c]] w fun e w' => e = .returned (.iface 86 (.agg #[.slice sn.a sn.n sn.c, .int .i64 epoch, .int .i64 seq, .slice tag.a tag.n tag.c, .slice body.a body.n body.c])) ∧ Below w.heap.size w w' := by
 obtain ⟨x0, hx0⟩ : ∃ x0, w.alloc (.cells #[.int .i64 8, .int .i64 id, .slice cn.a cn.n cn.c, .slice sn.a sn.n sn.c, .int .i64 tick, .slice cookie.a cookie.n cookie.c, .slice proof.a proof.n proof.c, .int .i64 epoch, .int .i64 seq, .slice body.a body.n body.c, .slice tag.a tag.n tag.c] 25) = x0 := ⟨_, rfl⟩
 have HW0 := hid (hx0)
 have B0 : Hid (Below w.heap.size w x0) := by rw [← hx0]; exact (Below.refl _ _).alloc (Nat.le_refl _) _
 have K0 : Hid (Blk x0 w.heap.size 25 [.int .i64 8, .int .i64 id, .slice cn.a cn.n cn.c, .slice sn.a sn.n sn.c, .int .i64 tick, .slice cookie.a cookie.n cookie.c, .slice proof.a proof.n proof.c, .int .i64 epoch, .int .i64 seq, .slice body.a body.n body.c, .slice tag.a tag.n tag.c]) := by rw [← hx0]; exact Blk.new w _ _
 clear hx0
 go_enter Tryz.func42, Tryz.ntmps42
 go_wp2_with fail
 rw [HW0.out]
 refine (sealedOf 8 id cn sn tick cookie proof epoch seq body tag x0).mono ?_
 rintro e x1 ⟨rfl, b1⟩
 have B1 := hid (B0.out.trans (b1.mono B0.out.size))
 clear b1
 go_wp2
 go_ret
 exact ⟨by simp, B1.out⟩

set_option maxHeartbeats 1600000 in
theorem wordOf0 (kind id : Int) (cn sn : Sl) (tick : Int) (cookie proof : Sl) (epoch seq : Int) (body tag : Sl) (h1 : (kind == 1) = false) (h2 : (kind == 2) = false) (h3 : (kind == 3) = false) (h4 : (kind == 4) = false) (h5 : (kind == 5) = false) (h6 : (kind == 6) = false) (h7 : (kind == 7) = false) (h8 : (kind == 8) = false) (w : World) :
  Calls Tryz.prog 42 #[.agg #[.int .i64 kind, .int .i64 id, .slice cn.a cn.n cn.c, .slice sn.a sn.n sn.c, .int .i64 tick, .slice cookie.a cookie.n cookie.c, .slice proof.a proof.n proof.c, .int .i64 epoch, .int .i64 seq, .slice body.a body.n body.c, .slice tag.a tag.n tag.c]] w fun e w' => e = .returned (.nilIface) ∧ Below w.heap.size w w' := by
 obtain ⟨x0, hx0⟩ : ∃ x0, w.alloc (.cells #[.int .i64 kind, .int .i64 id, .slice cn.a cn.n cn.c, .slice sn.a sn.n sn.c, .int .i64 tick, .slice cookie.a cookie.n cookie.c, .slice proof.a proof.n proof.c, .int .i64 epoch, .int .i64 seq, .slice body.a body.n body.c, .slice tag.a tag.n tag.c] 25) = x0 := ⟨_, rfl⟩
 have HW0 := hid (hx0)
 have B0 : Hid (Below w.heap.size w x0) := by rw [← hx0]; exact (Below.refl _ _).alloc (Nat.le_refl _) _
 have K0 : Hid (Blk x0 w.heap.size 25 [.int .i64 kind, .int .i64 id, .slice cn.a cn.n cn.c, .slice sn.a sn.n sn.c, .int .i64 tick, .slice cookie.a cookie.n cookie.c, .slice proof.a proof.n proof.c, .int .i64 epoch, .int .i64 seq, .slice body.a body.n body.c, .slice tag.a tag.n tag.c]) := by rw [← hx0]; exact Blk.new w _ _
 clear hx0
 go_enter Tryz.func42, Tryz.ntmps42
 go_wp2
 rw [HW0.out]
 go_ret
 exact ⟨by simp, B0.out⟩

end Go.Proofs.YtpenhliaelhnoaaGreatDoor.FrW3
