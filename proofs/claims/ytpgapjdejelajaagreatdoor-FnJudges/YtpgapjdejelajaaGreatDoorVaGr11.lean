/-
  Closed facts on impl's interface: which word is of which type, and which method a word has.
  The words of impl's frames; which are sealed.
  What the laws' own tests of bytes answer: whether two slices hold the same bytes; whether one begins with the other.
  What bytes.Equal and impl's sameFrame answer.
-/
import Derived.Test.YtpgapjdejelajaaGreatDoorProg
import Derived.WalkKit
import Derived.KernelRfl
import Derived.Test.YtpgapjdejelajaaGreatDoorVaFrW2
import Derived.Deep.RegionHeld3
import Derived.Test.YtpgapjdejelajaaGreatDoorVaGr1
import Derived.Laws.BytesArg
import Derived.Lib.Bytes
set_option linter.unusedVariables false
set_option maxRecDepth 100000
namespace Go.Proofs.YtpgapjdejelajaaGreatDoor.FrT
open Go.RowKit

theorem ne1 (v : Value) (w : World) : (binOp .neq 103 (.iface 116 v) .nilIface).run Tryz.prog w = .ok (.bool true) w := by kernel_rfl
theorem mr1 (v : Value) (w : World) : (method 258 116 v "loop.example/g00478/impl.right").run Tryz.prog w = .ok (140, v) w := by kernel_rfl
theorem mf1 (v : Value) (w : World) : (method 258 116 v "loop.example/g00478/impl.frame").run Tryz.prog w = .ok (139, v) w := by kernel_rfl
theorem ne2 (v : Value) (w : World) : (binOp .neq 103 (.iface 65 v) .nilIface).run Tryz.prog w = .ok (.bool true) w := by kernel_rfl
theorem mr2 (v : Value) (w : World) : (method 258 65 v "loop.example/g00478/impl.right").run Tryz.prog w = .ok (74, v) w := by kernel_rfl
theorem mf2 (v : Value) (w : World) : (method 258 65 v "loop.example/g00478/impl.frame").run Tryz.prog w = .ok (45, v) w := by kernel_rfl
theorem ne3 (v : Value) (w : World) : (binOp .neq 103 (.iface 119 v) .nilIface).run Tryz.prog w = .ok (.bool true) w := by kernel_rfl
theorem mr3 (v : Value) (w : World) : (method 258 119 v "loop.example/g00478/impl.right").run Tryz.prog w = .ok (142, v) w := by kernel_rfl
theorem mf3 (v : Value) (w : World) : (method 258 119 v "loop.example/g00478/impl.frame").run Tryz.prog w = .ok (141, v) w := by kernel_rfl
theorem ne4 (v : Value) (w : World) : (binOp .neq 103 (.iface 124 v) .nilIface).run Tryz.prog w = .ok (.bool true) w := by kernel_rfl
theorem mr4 (v : Value) (w : World) : (method 258 124 v "loop.example/g00478/impl.right").run Tryz.prog w = .ok (148, v) w := by kernel_rfl
theorem mf4 (v : Value) (w : World) : (method 258 124 v "loop.example/g00478/impl.frame").run Tryz.prog w = .ok (147, v) w := by kernel_rfl
theorem ne5 (v : Value) (w : World) : (binOp .neq 103 (.iface 125 v) .nilIface).run Tryz.prog w = .ok (.bool true) w := by kernel_rfl
theorem mr5 (v : Value) (w : World) : (method 258 125 v "loop.example/g00478/impl.right").run Tryz.prog w = .ok (150, v) w := by kernel_rfl
theorem mf5 (v : Value) (w : World) : (method 258 125 v "loop.example/g00478/impl.frame").run Tryz.prog w = .ok (149, v) w := by kernel_rfl
theorem ne6 (v : Value) (w : World) : (binOp .neq 103 (.iface 126 v) .nilIface).run Tryz.prog w = .ok (.bool true) w := by kernel_rfl
theorem mr6 (v : Value) (w : World) : (method 258 126 v "loop.example/g00478/impl.right").run Tryz.prog w = .ok (152, v) w := by kernel_rfl
theorem mf6 (v : Value) (w : World) : (method 258 126 v "loop.example/g00478/impl.frame").run Tryz.prog w = .ok (151, v) w := by kernel_rfl
theorem ne7 (v : Value) (w : World) : (binOp .neq 103 (.iface 127 v) .nilIface).run Tryz.prog w = .ok (.bool true) w := by kernel_rfl
theorem mr7 (v : Value) (w : World) : (method 258 127 v "loop.example/g00478/impl.right").run Tryz.prog w = .ok (154, v) w := by kernel_rfl
theorem mf7 (v : Value) (w : World) : (method 258 127 v "loop.example/g00478/impl.frame").run Tryz.prog w = .ok (153, v) w := by kernel_rfl
theorem ne8 (v : Value) (w : World) : (binOp .neq 103 (.iface 128 v) .nilIface).run Tryz.prog w = .ok (.bool true) w := by kernel_rfl
theorem mr8 (v : Value) (w : World) : (method 258 128 v "loop.example/g00478/impl.right").run Tryz.prog w = .ok (156, v) w := by kernel_rfl
theorem mf8 (v : Value) (w : World) : (method 258 128 v "loop.example/g00478/impl.frame").run Tryz.prog w = .ok (155, v) w := by kernel_rfl
theorem ne0 (w : World) : (binOp .neq 103 .nilIface .nilIface).run Tryz.prog w = .ok (.bool false) w := by kernel_rfl
end Go.Proofs.YtpgapjdejelajaaGreatDoor.FrT

namespace Go.Proofs.YtpgapjdejelajaaGreatDoor.FrW3
open Go.RowKit Mem Blk Words Zone Res FrZ FrP FrW FrW2 FrT

set_option maxHeartbeats 1600000 in
theorem wordOf1 (id : Int) (cn sn : Sl) (tick : Int) (cookie proof : Sl) (epoch seq : Int) (body tag : Sl) (w : World) :
  Calls Tryz.prog 95 #[.agg #[.int .i64 1, .int .i64 id, .slice cn.a cn.n cn.c, .slice sn.a sn.n sn.c, .int .i64 tick, .slice cookie.a cookie.n cookie.c, .slice proof.a proof.n proof.c, .int .i64 epoch, .int .i64 seq, .slice body.a body.n body.c, .slice tag.a tag.n tag.c]] w fun e w' => e = .returned (.iface 116 (.agg #[.int .i64 id, .slice cn.a cn.n cn.c])) ∧ Below w.heap.size w w' := by
 obtain ⟨x0, hx0⟩ : ∃ x0, w.alloc (.cells #[.int .i64 1, .int .i64 id, .slice cn.a cn.n cn.c, .slice sn.a sn.n sn.c, .int .i64 tick, .slice cookie.a cookie.n cookie.c, .slice proof.a proof.n proof.c, .int .i64 epoch, .int .i64 seq, .slice body.a body.n body.c, .slice tag.a tag.n tag.c] 35) = x0 := ⟨_, rfl⟩
 have HW0 := hid (hx0)
 have B0 : Hid (Below w.heap.size w x0) := by rw [← hx0]; exact (Below.refl _ _).alloc (Nat.le_refl _) _
 have K0 : Hid (Blk x0 w.heap.size 35 [.int .i64 1, .int .i64 id, .slice cn.a cn.n cn.c, .slice sn.a sn.n sn.c, .int .i64 tick, .slice cookie.a cookie.n cookie.c, .slice proof.a proof.n proof.c, .int .i64 epoch, .int .i64 seq, .slice body.a body.n body.c, .slice tag.a tag.n tag.c]) := by rw [← hx0]; exact Blk.new w _ _
 clear hx0
 go_enter Tryz.func95, Tryz.ntmps95
 go_wp2
 rw [HW0.out]
 go_ret
 exact ⟨by simp, B0.out⟩

set_option maxHeartbeats 1600000 in
theorem wordOf2 (id : Int) (cn sn : Sl) (tick : Int) (cookie proof : Sl) (epoch seq : Int) (body tag : Sl) (w : World) :
  Calls Tryz.prog 95 #[.agg #[.int .i64 2, .int .i64 id, .slice cn.a cn.n cn.c, .slice sn.a sn.n sn.c, .int .i64 tick, .slice cookie.a cookie.n cookie.c, .slice proof.a proof.n proof.c, .int .i64 epoch, .int .i64 seq, .slice body.a body.n body.c, .slice tag.a tag.n tag.c]] w fun e w' => e = .returned (.iface 65 (.agg #[.slice cn.a cn.n cn.c, .slice sn.a sn.n sn.c, .int .i64 tick, .slice cookie.a cookie.n cookie.c])) ∧ Below w.heap.size w w' := by
 obtain ⟨x0, hx0⟩ : ∃ x0, w.alloc (.cells #[.int .i64 2, .int .i64 id, .slice cn.a cn.n cn.c, .slice sn.a sn.n sn.c, .int .i64 tick, .slice cookie.a cookie.n cookie.c, .slice proof.a proof.n proof.c, .int .i64 epoch, .int .i64 seq, .slice body.a body.n body.c, .slice tag.a tag.n tag.c] 35) = x0 := ⟨_, rfl⟩
 have HW0 := hid (hx0)
 have B0 : Hid (Below w.heap.size w x0) := by rw [← hx0]; exact (Below.refl _ _).alloc (Nat.le_refl _) _
 have K0 : Hid (Blk x0 w.heap.size 35 [.int .i64 2, .int .i64 id, .slice cn.a cn.n cn.c, .slice sn.a sn.n sn.c, .int .i64 tick, .slice cookie.a cookie.n cookie.c, .slice proof.a proof.n proof.c, .int .i64 epoch, .int .i64 seq, .slice body.a body.n body.c, .slice tag.a tag.n tag.c]) := by rw [← hx0]; exact Blk.new w _ _
 clear hx0
 go_enter Tryz.func95, Tryz.ntmps95
 go_wp2_with fail
 rw [HW0.out]
 refine (cookieOf 2 id cn sn tick cookie proof epoch seq body tag x0).mono ?_
 rintro e x1 ⟨rfl, b1⟩
 have B1 := hid (B0.out.trans (b1.mono B0.out.size))
 clear b1
 go_wp2
 go_ret
 exact ⟨by simp, B1.out⟩

set_option maxHeartbeats 1600000 in
theorem wordOf3 (id : Int) (cn sn : Sl) (tick : Int) (cookie proof : Sl) (epoch seq : Int) (body tag : Sl) (w : World) :
  Calls Tryz.prog 95 #[.agg #[.int .i64 3, .int .i64 id, .slice cn.a cn.n cn.c, .slice sn.a sn.n sn.c, .int .i64 tick, .slice cookie.a cookie.n cookie.c, .slice proof.a proof.n proof.c, .int .i64 epoch, .int .i64 seq, .slice body.a body.n body.c, .slice tag.a tag.n tag.c]] w fun e w' => e = .returned (.iface 119 (.agg #[.int .i64 id, .slice cn.a cn.n cn.c, .slice sn.a sn.n sn.c, .int .i64 tick, .slice cookie.a cookie.n cookie.c, .slice proof.a proof.n proof.c])) ∧ Below w.heap.size w w' := by
 obtain ⟨x0, hx0⟩ : ∃ x0, w.alloc (.cells #[.int .i64 3, .int .i64 id, .slice cn.a cn.n cn.c, .slice sn.a sn.n sn.c, .int .i64 tick, .slice cookie.a cookie.n cookie.c, .slice proof.a proof.n proof.c, .int .i64 epoch, .int .i64 seq, .slice body.a body.n body.c, .slice tag.a tag.n tag.c] 35) = x0 := ⟨_, rfl⟩
 have HW0 := hid (hx0)
 have B0 : Hid (Below w.heap.size w x0) := by rw [← hx0]; exact (Below.refl _ _).alloc (Nat.le_refl _) _
 have K0 : Hid (Blk x0 w.heap.size 35 [.int .i64 3, .int .i64 id, .slice cn.a cn.n cn.c, .slice sn.a sn.n sn.c, .int .i64 tick, .slice cookie.a cookie.n cookie.c, .slice proof.a proof.n proof.c, .int .i64 epoch, .int .i64 seq, .slice body.a body.n body.c, .slice tag.a tag.n tag.c]) := by rw [← hx0]; exact Blk.new w _ _
 clear hx0
 go_enter Tryz.func95, Tryz.ntmps95
 go_upto_region 7 with fail
 rw [HW0.out]
 generalize hga : w.heap.size = ga at K0 ⊢
 obtain ⟨c0, c1, c2, c3, c4, c5, c6, c7, c8, c9, c10⟩ := cells11 K0.out
 go_region_held3 (fun w' => w'.cell? ⟨ga, 0, none⟩ = some (.int .i64 3) ∧ w'.cell? ⟨ga, 1, none⟩ = some (.int .i64 id) ∧ w'.cell? ⟨ga, 2, none⟩ = some (.slice cn.a cn.n cn.c) ∧ w'.cell? ⟨ga, 3, none⟩ = some (.slice sn.a sn.n sn.c) ∧ w'.cell? ⟨ga, 4, none⟩ = some (.int .i64 tick) ∧ w'.cell? ⟨ga, 5, none⟩ = some (.slice cookie.a cookie.n cookie.c) ∧ w'.cell? ⟨ga, 6, none⟩ = some (.slice proof.a proof.n proof.c) ∧ w'.cell? ⟨ga, 7, none⟩ = some (.int .i64 epoch) ∧ w'.cell? ⟨ga, 8, none⟩ = some (.int .i64 seq) ∧ w'.cell? ⟨ga, 9, none⟩ = some (.slice body.a body.n body.c) ∧ w'.cell? ⟨ga, 10, none⟩ = some (.slice tag.a tag.n tag.c)) (first | exact ⟨p0, p1, p2, p3, p4, p5, p6, p7, p8, p9, p10⟩ | exact ⟨c0, c1, c2, c3, c4, c5, c6, c7, c8, c9, c10⟩ | go_keep)
  ((go_at_call 109; refine (cookieOf 3 id cn sn tick cookie proof epoch seq body tag x0.drew).mono ?_; rintro e x1 ⟨rfl, b1⟩; have B1 := hid ((B0.out.drew.trans (b1.mono B0.out.size))); have p0 := (Blk.later (w := x0.drew) K0.out b1).cell 0 rfl; have p1 := (Blk.later (w := x0.drew) K0.out b1).cell 1 rfl; have p2 := (Blk.later (w := x0.drew) K0.out b1).cell 2 rfl; have p3 := (Blk.later (w := x0.drew) K0.out b1).cell 3 rfl; have p4 := (Blk.later (w := x0.drew) K0.out b1).cell 4 rfl; have p5 := (Blk.later (w := x0.drew) K0.out b1).cell 5 rfl; have p6 := (Blk.later (w := x0.drew) K0.out b1).cell 6 rfl; have p7 := (Blk.later (w := x0.drew) K0.out b1).cell 7 rfl; have p8 := (Blk.later (w := x0.drew) K0.out b1).cell 8 rfl; have p9 := (Blk.later (w := x0.drew) K0.out b1).cell 9 rfl; have p10 := (Blk.later (w := x0.drew) K0.out b1).cell 10 rfl))
 go_wp2
 go_ret
 exact ⟨by simp, hga ▸ B1.out⟩

set_option maxHeartbeats 1600000 in
theorem wordOf4 (id : Int) (cn sn : Sl) (tick : Int) (cookie proof : Sl) (epoch seq : Int) (body tag : Sl) (w : World) :
  Calls Tryz.prog 95 #[.agg #[.int .i64 4, .int .i64 id, .slice cn.a cn.n cn.c, .slice sn.a sn.n sn.c, .int .i64 tick, .slice cookie.a cookie.n cookie.c, .slice proof.a proof.n proof.c, .int .i64 epoch, .int .i64 seq, .slice body.a body.n body.c, .slice tag.a tag.n tag.c]] w fun e w' => e = .returned (.iface 124 (.agg #[.slice sn.a sn.n sn.c, .int .i64 epoch, .int .i64 seq, .slice tag.a tag.n tag.c, .slice body.a body.n body.c])) ∧ Below w.heap.size w w' := by
 obtain ⟨x0, hx0⟩ : ∃ x0, w.alloc (.cells #[.int .i64 4, .int .i64 id, .slice cn.a cn.n cn.c, .slice sn.a sn.n sn.c, .int .i64 tick, .slice cookie.a cookie.n cookie.c, .slice proof.a proof.n proof.c, .int .i64 epoch, .int .i64 seq, .slice body.a body.n body.c, .slice tag.a tag.n tag.c] 35) = x0 := ⟨_, rfl⟩
 have HW0 := hid (hx0)
 have B0 : Hid (Below w.heap.size w x0) := by rw [← hx0]; exact (Below.refl _ _).alloc (Nat.le_refl _) _
 have K0 : Hid (Blk x0 w.heap.size 35 [.int .i64 4, .int .i64 id, .slice cn.a cn.n cn.c, .slice sn.a sn.n sn.c, .int .i64 tick, .slice cookie.a cookie.n cookie.c, .slice proof.a proof.n proof.c, .int .i64 epoch, .int .i64 seq, .slice body.a body.n body.c, .slice tag.a tag.n tag.c]) := by rw [← hx0]; exact Blk.new w _ _
 clear hx0
 go_enter Tryz.func95, Tryz.ntmps95
 go_wp2_with fail
 rw [HW0.out]
 refine (sealedOf 4 id cn sn tick cookie proof epoch seq body tag x0).mono ?_
 rintro e x1 ⟨rfl, b1⟩
 have B1 := hid (B0.out.trans (b1.mono B0.out.size))
 clear b1
 go_wp2
 go_ret
 exact ⟨by simp, B1.out⟩

set_option maxHeartbeats 1600000 in
theorem wordOf5 (id : Int) (cn sn : Sl) (tick : Int) (cookie proof : Sl) (epoch seq : Int) (body tag : Sl) (w : World) :
  Calls Tryz.prog 95 #[.agg #[.int .i64 5, .int .i64 id, .slice cn.a cn.n cn.c, .slice sn.a sn.n sn.c, .int .i64 tick, .slice cookie.a cookie.n cookie.c, .slice proof.a proof.n proof.c, .int .i64 epoch, .int .i64 seq, .slice body.a body.n body.c, .slice tag.a tag.n tag.c]] w fun e w' => e = .returned (.iface 125 (.agg #[.slice sn.a sn.n sn.c, .int .i64 epoch, .int .i64 seq, .slice tag.a tag.n tag.c, .slice body.a body.n body.c])) ∧ Below w.heap.size w w' := by
 obtain ⟨x0, hx0⟩ : ∃ x0, w.alloc (.cells #[.int .i64 5, .int .i64 id, .slice cn.a cn.n cn.c, .slice sn.a sn.n sn.c, .int .i64 tick, .slice cookie.a cookie.n cookie.c, .slice proof.a proof.n proof.c, .int .i64 epoch, .int .i64 seq, .slice body.a body.n body.c, .slice tag.a tag.n tag.c] 35) = x0 := ⟨_, rfl⟩
 have HW0 := hid (hx0)
 have B0 : Hid (Below w.heap.size w x0) := by rw [← hx0]; exact (Below.refl _ _).alloc (Nat.le_refl _) _
 have K0 : Hid (Blk x0 w.heap.size 35 [.int .i64 5, .int .i64 id, .slice cn.a cn.n cn.c, .slice sn.a sn.n sn.c, .int .i64 tick, .slice cookie.a cookie.n cookie.c, .slice proof.a proof.n proof.c, .int .i64 epoch, .int .i64 seq, .slice body.a body.n body.c, .slice tag.a tag.n tag.c]) := by rw [← hx0]; exact Blk.new w _ _
 clear hx0
 go_enter Tryz.func95, Tryz.ntmps95
 go_wp2_with fail
 rw [HW0.out]
 refine (sealedOf 5 id cn sn tick cookie proof epoch seq body tag x0).mono ?_
 rintro e x1 ⟨rfl, b1⟩
 have B1 := hid (B0.out.trans (b1.mono B0.out.size))
 clear b1
 go_wp2
 go_ret
 exact ⟨by simp, B1.out⟩

set_option maxHeartbeats 1600000 in
theorem wordOf6 (id : Int) (cn sn : Sl) (tick : Int) (cookie proof : Sl) (epoch seq : Int) (body tag : Sl) (w : World) :
  Calls Tryz.prog 95 #[.agg #[.int .i64 6, .int .i64 id, .slice cn.a cn.n cn.c, .slice sn.a sn.n sn.c, .int .i64 tick, .slice cookie.a cookie.n cookie.c, .slice proof.a proof.n proof.c, .int .i64 epoch, .int .i64 seq, .slice body.a body.n body.c, .slice tag.a tag.n tag.c]] w fun e w' => e = .returned (.iface 126 (.agg #[.slice sn.a sn.n sn.c, .int .i64 epoch, .int .i64 seq, .slice tag.a tag.n tag.c, .slice body.a body.n body.c])) ∧ Below w.heap.size w w' := by
 obtain ⟨x0, hx0⟩ : ∃ x0, w.alloc (.cells #[.int .i64 6, .int .i64 id, .slice cn.a cn.n cn.c, .slice sn.a sn.n sn.c, .int .i64 tick, .slice cookie.a cookie.n cookie.c, .slice proof.a proof.n proof.c, .int .i64 epoch, .int .i64 seq, .slice body.a body.n body.c, .slice tag.a tag.n tag.c] 35) = x0 := ⟨_, rfl⟩
 have HW0 := hid (hx0)
 have B0 : Hid (Below w.heap.size w x0) := by rw [← hx0]; exact (Below.refl _ _).alloc (Nat.le_refl _) _
 have K0 : Hid (Blk x0 w.heap.size 35 [.int .i64 6, .int .i64 id, .slice cn.a cn.n cn.c, .slice sn.a sn.n sn.c, .int .i64 tick, .slice cookie.a cookie.n cookie.c, .slice proof.a proof.n proof.c, .int .i64 epoch, .int .i64 seq, .slice body.a body.n body.c, .slice tag.a tag.n tag.c]) := by rw [← hx0]; exact Blk.new w _ _
 clear hx0
 go_enter Tryz.func95, Tryz.ntmps95
 go_wp2_with fail
 rw [HW0.out]
 refine (sealedOf 6 id cn sn tick cookie proof epoch seq body tag x0).mono ?_
 rintro e x1 ⟨rfl, b1⟩
 have B1 := hid (B0.out.trans (b1.mono B0.out.size))
 clear b1
 go_wp2
 go_ret
 exact ⟨by simp, B1.out⟩

set_option maxHeartbeats 1600000 in
theorem wordOf7 (id : Int) (cn sn : Sl) (tick : Int) (cookie proof : Sl) (epoch seq : Int) (body tag : Sl) (w : World) :
  Calls Tryz.prog 95 #[.agg #[.int .i64 7, .int .i64 id, .slice cn.a cn.n cn.c, .slice sn.a sn.n sn.c, .int .i64 tick, .slice cookie.a cookie.n cookie.c, .slice proof.a proof.n proof.c, .int .i64 epoch, .int .i64 seq, .slice body.a body.n body.c, .slice tag.a tag.n tag.c]] w fun e w' => e = .returned (.iface 127 (.agg #[.slice sn.a sn.n sn.c, .int .i64 epoch, .int .i64 seq, .slice tag.a tag.n tag.c, .slice body.a body.n body.c])) ∧ Below w.heap.size w w' := by
 obtain ⟨x0, hx0⟩ : ∃ x0, w.alloc (.cells #[.int .i64 7, .int .i64 id, .slice cn.a cn.n cn.c, .slice sn.a sn.n sn.c, .int .i64 tick, .slice cookie.a cookie.n cookie.c, .slice proof.a proof.n proof.c, .int .i64 epoch, .int .i64 seq, .slice body.a body.n body.c, .slice tag.a tag.n tag.c] 35) = x0 := ⟨_, rfl⟩
 have HW0 := hid (hx0)
 have B0 : Hid (Below w.heap.size w x0) := by rw [← hx0]; exact (Below.refl _ _).alloc (Nat.le_refl _) _
 have K0 : Hid (Blk x0 w.heap.size 35 [.int .i64 7, .int .i64 id, .slice cn.a cn.n cn.c, .slice sn.a sn.n sn.c, .int .i64 tick, .slice cookie.a cookie.n cookie.c, .slice proof.a proof.n proof.c, .int .i64 epoch, .int .i64 seq, .slice body.a body.n body.c, .slice tag.a tag.n tag.c]) := by rw [← hx0]; exact Blk.new w _ _
 clear hx0
 go_enter Tryz.func95, Tryz.ntmps95
 go_wp2_with fail
 rw [HW0.out]
 refine (sealedOf 7 id cn sn tick cookie proof epoch seq body tag x0).mono ?_
 rintro e x1 ⟨rfl, b1⟩
 have B1 := hid (B0.out.trans (b1.mono B0.out.size))
 clear b1
 go_wp2
 go_ret
 exact ⟨by simp, B1.out⟩

set_option maxHeartbeats 1600000 in
theorem wordOf8 (id : Int) (cn sn : Sl) (tick : Int) (cookie proof : Sl) (epoch seq : Int) (body tag : Sl) (w : World) :
  Calls Tryz.prog 95 #[.agg #[.int .i64 8, .int .i64 id, .slice cn.a cn.n cn.c, .slice sn.a sn.n sn.c, .int .i64 tick, .slice cookie.a cookie.n cookie.c, .slice proof.a proof.n proof.c, .int .i64 epoch, .int .i64 seq, .slice body.a body.n body.c, .slice tag.a tag.n tag.c]] w fun e w' => e = .returned (.iface 128 (.agg #[.slice sn.a sn.n sn.c, .int .i64 epoch, .int .i64 seq, .slice tag.a tag.n tag.c, .slice body.a body.n body.c])) ∧ Below w.heap.size w w' := by
 obtain ⟨x0, hx0⟩ : ∃ x0, w.alloc (.cells #[.int .i64 8, .int .i64 id, .slice cn.a cn.n cn.c, .slice sn.a sn.n sn.c, .int .i64 tick, .slice cookie.a cookie.n cookie.c, .slice proof.a proof.n proof.c, .int .i64 epoch, .int .i64 seq, .slice body.a body.n body.c, .slice tag.a tag.n tag.c] 35) = x0 := ⟨_, rfl⟩
 have HW0 := hid (hx0)
 have B0 : Hid (Below w.heap.size w x0) := by rw [← hx0]; exact (Below.refl _ _).alloc (Nat.le_refl _) _
 have K0 : Hid (Blk x0 w.heap.size 35 [.int .i64 8, .int .i64 id, .slice cn.a cn.n cn.c, .slice sn.a sn.n sn.c, .int .i64 tick, .slice cookie.a cookie.n cookie.c, .slice proof.a proof.n proof.c, .int .i64 epoch, .int .i64 seq, .slice body.a body.n body.c, .slice tag.a tag.n tag.c]) := by rw [← hx0]; exact Blk.new w _ _
 clear hx0
 go_enter Tryz.func95, Tryz.ntmps95
 go_wp2_with fail
 rw [HW0.out]
 refine (sealedOf 8 id cn sn tick cookie proof epoch seq body tag x0).mono ?_
 rintro e x1 ⟨rfl, b1⟩
 have B1 := hid (B0.out.trans (b1.mono B0.out.size))
 clear b1
 go_wp2
 go_ret
 exact ⟨by simp, B1.out⟩

set_option maxHeartbeats 1600000 in
theorem wordOf0 (kind id : Int) (cn sn : Sl) (tick : Int) (cookie proof : Sl) (epoch seq : Int) (body tag : Sl) (h1 : (kind == 1) = false) (h2 : (kind == 2) = false) (h3 : (kind == 3) = false) (h4 : (kind == 4) = false) (h5 : (kind == 5) = false) (h6 : (kind == 6) = false) (h7 : (kind == 7) = false) (h8 : (kind == 8) = false) (w : World) :
  Calls Tryz.prog 95 #[.agg #[.int .i64 kind, .int .i64 id, .slice cn.a cn.n cn.c, .slice sn.a sn.n sn.c, .int .i64 tick, .slice cookie.a cookie.n cookie.c, .slice proof.a proof.n proof.c, .int .i64 epoch, .int .i64 seq, .slice body.a body.n body.c, .slice tag.a tag.n tag.c]] w fun e w' => e = .returned (.nilIface) ∧ Below w.heap.size w w' := by
 obtain ⟨x0, hx0⟩ : ∃ x0, w.alloc (.cells #[.int .i64 kind, .int .i64 id, .slice cn.a cn.n cn.c, .slice sn.a sn.n sn.c, .int .i64 tick, .slice cookie.a cookie.n cookie.c, .slice proof.a proof.n proof.c, .int .i64 epoch, .int .i64 seq, .slice body.a body.n body.c, .slice tag.a tag.n tag.c] 35) = x0 := ⟨_, rfl⟩
 have HW0 := hid (hx0)
 have B0 : Hid (Below w.heap.size w x0) := by rw [← hx0]; exact (Below.refl _ _).alloc (Nat.le_refl _) _
 have K0 : Hid (Blk x0 w.heap.size 35 [.int .i64 kind, .int .i64 id, .slice cn.a cn.n cn.c, .slice sn.a sn.n sn.c, .int .i64 tick, .slice cookie.a cookie.n cookie.c, .slice proof.a proof.n proof.c, .int .i64 epoch, .int .i64 seq, .slice body.a body.n body.c, .slice tag.a tag.n tag.c]) := by rw [← hx0]; exact Blk.new w _ _
 clear hx0
 go_enter Tryz.func95, Tryz.ntmps95
 go_wp2
 rw [HW0.out]
 go_ret
 exact ⟨by simp, B0.out⟩

end Go.Proofs.YtpgapjdejelajaaGreatDoor.FrW3

namespace Go.Proofs.YtpgapjdejelajaaGreatDoor.Same
open Go.RowKit Mem

theorem nums_inj {x y : List Int} (hx : Bytes x) (hy : Bytes y) (h : strOfNums x = strOfNums y) : x = y := by
 have h1 := congrArg (fun b : ByteArray => b.data.toList) h
 simp only [strOfNums_data] at h1
 have hl : x.length = y.length := by simpa using congrArg List.length h1
 apply List.ext_getElem hl
 intro i hi hj
 have h2 := congrArg (fun l : List UInt8 => l[i]?) h1
 simp only [List.getElem?_map, List.getElem?_eq_getElem hi, List.getElem?_eq_getElem hj, Option.map_some, Option.some.injEq] at h2
 have h3 := congrArg UInt8.toNat h2
 have a := hx _ (List.getElem_mem hi)
 have b := hy _ (List.getElem_mem hj)
 simp only [UInt8.toNat_ofNat'] at h3
 omega
theorem convAt {w : World} {g o n c : Nat} {x : List Int} (hn : n = x.length) (h : Rd w (some ⟨g, o, none⟩) x) :
  (convert 22 9 (.slice (some ⟨g, o, none⟩) n c)).run Tryz.prog w = .ok (.string (strOfNums x)) w :=
 run_convert_bytes_arg (P := Tryz.prog) w 22 5 Tryz.underlying22 Tryz.underlying5 g o n c x hn.symm (fun i hi => by
  obtain ⟨b, off, e, _, hc⟩ := h i (by omega)
  simp only [Option.some.injEq, Addr.mk.injEq, and_true] at e
  obtain ⟨rfl, rfl⟩ := e
  exact hc) 9 Tryz.underlying9
end Go.Proofs.YtpgapjdejelajaaGreatDoor.Same

namespace Go.Proofs.YtpgapjdejelajaaGreatDoor.FrE
open Go.RowKit Mem Blk Words Zone Res FrZ FrP Same

theorem convS {w : World} {s : Sl} {l : List Int} (h : SRd w s l) : (convert 22 9 (.slice s.a s.n s.c)).run Tryz.prog w = .ok (.string (strOfNums l)) w := by
 obtain ⟨sa, sn, sc⟩ := s
 have hn : sn = l.length := h.len
 by_cases hl : l.length = 0
 ·
  have e : l = [] := List.eq_nil_of_length_eq_zero hl
  subst e
  subst hn
  show (convert 22 9 (.slice sa 0 sc)).run Tryz.prog w = _
  rw [run_convert_bytes_string w 22 9 5 sa 0 sc Tryz.underlying22 Tryz.underlying5 Tryz.underlying9]
  cases sa <;> rfl
 ·
  obtain ⟨b, off, e, _, _⟩ := h.rd 0 (by omega)
  have e' : sa = some ⟨b, off, none⟩ := e
  subst e'
  exact convAt hn h.rd
theorem bytesEq (s t : Sl) (x y : List Int) (w : World) (h : SRd w s x) (k : SRd w t y) :
  Calls Tryz.prog 111 #[.slice s.a s.n s.c, .slice t.a t.n t.c] w fun e w' => e = .returned (.bool (decide (x = y))) ∧ w = w' := by
 have cv1 := convS h
 have cv2 := convS k
 have HD : Hid (decide (x = y) = ((strOfNums x).toList == (strOfNums y).toList)) := by
  show _ = _
  rw [Lib.strOfNums_toList, Lib.strOfNums_toList]
  by_cases e : x = y
  ·
   subst e; simp
  ·
   have : ¬ Lib.bytesOf x = Lib.bytesOf y := fun q => e (nums_inj h.bytes k.bytes (by unfold strOfNums; rw [show (x.map fun n => UInt8.ofNat n.toNat) = (y.map fun n => UInt8.ofNat n.toNat) from q]))
   simp [e, this]
 clear h k
 generalize strOfNums x = sx at *
 generalize strOfNums y = sy at *
 go_enter Tryz.func111, Tryz.ntmps111
 go_wp2
 go_ret
 exact ⟨by rw [HD.out]; rfl, rfl⟩
def sameD (D E : FrD) : Bool := ((D.kind == E.kind) && ((D.id == E.id) && ((D.tick == E.tick) && ((D.epoch == E.epoch) && ((D.seq == E.seq) && ((decide (D.cn = E.cn)) && ((decide (D.sn = E.sn)) && ((decide (D.cookie = E.cookie)) && ((decide (D.proof = E.proof)) && ((decide (D.body = E.body)) && (decide (D.tag = E.tag))))))))))))

set_option maxHeartbeats 4000000 in
theorem implSame (S T : FrS) (D E : FrD) (w : World) (h : FrRd w S D) (k : FrRd w T E) :
  Calls Tryz.prog 96 #[frV D S, frV E T] w fun e w' => e = .returned (.bool (sameD D E)) ∧ Below w.heap.size w w' := by
 have HR := hid (h)
 have KR := hid (k)
 obtain ⟨x0, hx0⟩ : ∃ x0, (w.alloc (.cells #[.int .i64 D.kind, .int .i64 D.id, .slice S.cn.a S.cn.n S.cn.c, .slice S.sn.a S.sn.n S.sn.c, .int .i64 D.tick, .slice S.cookie.a S.cookie.n S.cookie.c, .slice S.proof.a S.proof.n S.proof.c, .int .i64 D.epoch, .int .i64 D.seq, .slice S.body.a S.body.n S.body.c, .slice S.tag.a S.tag.n S.tag.c] 35)).alloc (.cells #[.int .i64 E.kind, .int .i64 E.id, .slice T.cn.a T.cn.n T.cn.c, .slice T.sn.a T.sn.n T.sn.c, .int .i64 E.tick, .slice T.cookie.a T.cookie.n T.cookie.c, .slice T.proof.a T.proof.n T.proof.c, .int .i64 E.epoch, .int .i64 E.seq, .slice T.body.a T.body.n T.body.c, .slice T.tag.a T.tag.n T.tag.c] 35) = x0 := ⟨_, rfl⟩
 have HW0 := hid (hx0)
 have B0 : Hid (Below w.heap.size w x0) := by rw [← hx0]; exact ((Below.refl _ _).alloc (Nat.le_refl _) _).alloc (by simp) _
 have KA : Hid (Blk x0 w.heap.size 35 [.int .i64 D.kind, .int .i64 D.id, .slice S.cn.a S.cn.n S.cn.c, .slice S.sn.a S.sn.n S.sn.c, .int .i64 D.tick, .slice S.cookie.a S.cookie.n S.cookie.c, .slice S.proof.a S.proof.n S.proof.c, .int .i64 D.epoch, .int .i64 D.seq, .slice S.body.a S.body.n S.body.c, .slice S.tag.a S.tag.n S.tag.c]) := by rw [← hx0]; exact (Blk.new w _ _).alloc _
 have KB : Hid (Blk x0 (w.heap.size + 1) 35 [.int .i64 E.kind, .int .i64 E.id, .slice T.cn.a T.cn.n T.cn.c, .slice T.sn.a T.sn.n T.sn.c, .int .i64 E.tick, .slice T.cookie.a T.cookie.n T.cookie.c, .slice T.proof.a T.proof.n T.proof.c, .int .i64 E.epoch, .int .i64 E.seq, .slice T.body.a T.body.n T.body.c, .slice T.tag.a T.tag.n T.tag.c]) := by
  have := Blk.new (w.alloc (.cells #[.int .i64 D.kind, .int .i64 D.id, .slice S.cn.a S.cn.n S.cn.c, .slice S.sn.a S.sn.n S.sn.c, .int .i64 D.tick, .slice S.cookie.a S.cookie.n S.cookie.c, .slice S.proof.a S.proof.n S.proof.c, .int .i64 D.epoch, .int .i64 D.seq, .slice S.body.a S.body.n S.body.c, .slice S.tag.a S.tag.n S.tag.c] 35)) 35 [.int .i64 E.kind, .int .i64 E.id, .slice T.cn.a T.cn.n T.cn.c, .slice T.sn.a T.sn.n T.sn.c, .int .i64 E.tick, .slice T.cookie.a T.cookie.n T.cookie.c, .slice T.proof.a T.proof.n T.proof.c, .int .i64 E.epoch, .int .i64 E.seq, .slice T.body.a T.body.n T.body.c, .slice T.tag.a T.tag.n T.tag.c]
  rw [World.size_alloc] at this
  rw [← hx0]; exact this
 clear hx0 h k
 unfold frV sameD
 cases h_kind : (D.kind == E.kind) with
 | false =>
  go_enter Tryz.func96, Tryz.ntmps96
  go_wp2
  rw [HW0.out]
  go_ret
  exact ⟨by simp, B0.out⟩
 | true =>
  cases h_id : (D.id == E.id) with
  | false =>
   go_enter Tryz.func96, Tryz.ntmps96
   go_wp2
   rw [HW0.out]
   go_ret
   exact ⟨by simp, B0.out⟩
  | true =>
   cases h_tick : (D.tick == E.tick) with
   | false =>
    go_enter Tryz.func96, Tryz.ntmps96
    go_wp2
    rw [HW0.out]
    go_ret
    exact ⟨by simp, B0.out⟩
   | true =>
    cases h_epoch : (D.epoch == E.epoch) with
    | false =>
     go_enter Tryz.func96, Tryz.ntmps96
     go_wp2
     rw [HW0.out]
     go_ret
     exact ⟨by simp, B0.out⟩
    | true =>
     cases h_seq : (D.seq == E.seq) with
     | false =>
      go_enter Tryz.func96, Tryz.ntmps96
      go_wp2
      rw [HW0.out]
      go_ret
      exact ⟨by simp, B0.out⟩
     | true =>
      go_enter Tryz.func96, Tryz.ntmps96
      go_wp2_with fail
      rw [HW0.out]
      obtain ⟨ga, hga⟩ : ∃ ga, w.heap.size = ga := ⟨_, rfl⟩
      obtain ⟨gb, hgb⟩ : ∃ gb, w.heap.size + 1 = gb := ⟨_, rfl⟩
      rw [hgb] at KB ⊢
      rw [hga] at KA
      rw [hga]
      have a0 := KA.out.cell 0 rfl
      have b0 := KB.out.cell 0 rfl
      have a1 := KA.out.cell 1 rfl
      have b1 := KB.out.cell 1 rfl
      have a2 := KA.out.cell 2 rfl
      have b2 := KB.out.cell 2 rfl
      have a3 := KA.out.cell 3 rfl
      have b3 := KB.out.cell 3 rfl
      have a4 := KA.out.cell 4 rfl
      have b4 := KB.out.cell 4 rfl
      have a5 := KA.out.cell 5 rfl
      have b5 := KB.out.cell 5 rfl
      have a6 := KA.out.cell 6 rfl
      have b6 := KB.out.cell 6 rfl
      have a7 := KA.out.cell 7 rfl
      have b7 := KB.out.cell 7 rfl
      have a8 := KA.out.cell 8 rfl
      have b8 := KB.out.cell 8 rfl
      have a9 := KA.out.cell 9 rfl
      have b9 := KB.out.cell 9 rfl
      have a10 := KA.out.cell 10 rfl
      have b10 := KB.out.cell 10 rfl
      clear hgb
      refine (bytesEq S.cn T.cn D.cn E.cn x0 (HR.out.later B0.out).cn (KR.out.later B0.out).cn).mono ?_
      rintro e y ⟨rfl, rfl⟩
      cases h_cn : (decide (D.cn = E.cn)) with
      | false =>
       go_wp2
       go_ret
       exact ⟨by rw [h_cn]; rfl, hga ▸ B0.out⟩
      | true =>
       go_wp2_with fail
       refine (bytesEq S.sn T.sn D.sn E.sn x0 (HR.out.later B0.out).sn (KR.out.later B0.out).sn).mono ?_
       rintro e y ⟨rfl, rfl⟩
       cases h_sn : (decide (D.sn = E.sn)) with
       | false =>
        go_wp2
        go_ret
        exact ⟨by rw [h_cn, h_sn]; rfl, hga ▸ B0.out⟩
       | true =>
        go_wp2_with fail
        refine (bytesEq S.cookie T.cookie D.cookie E.cookie x0 (HR.out.later B0.out).cookie (KR.out.later B0.out).cookie).mono ?_
        rintro e y ⟨rfl, rfl⟩
        cases h_cookie : (decide (D.cookie = E.cookie)) with
        | false =>
         go_wp2
         go_ret
         exact ⟨by rw [h_cn, h_sn, h_cookie]; rfl, hga ▸ B0.out⟩
        | true =>
         go_wp2_with fail
         refine (bytesEq S.proof T.proof D.proof E.proof x0 (HR.out.later B0.out).proof (KR.out.later B0.out).proof).mono ?_
         rintro e y ⟨rfl, rfl⟩
         cases h_proof : (decide (D.proof = E.proof)) with
         | false =>
          go_wp2
          go_ret
          exact ⟨by rw [h_cn, h_sn, h_cookie, h_proof]; rfl, hga ▸ B0.out⟩
         | true =>
          go_wp2_with fail
          refine (bytesEq S.body T.body D.body E.body x0 (HR.out.later B0.out).body (KR.out.later B0.out).body).mono ?_
          rintro e y ⟨rfl, rfl⟩
          cases h_body : (decide (D.body = E.body)) with
          | false =>
           go_wp2
           go_ret
           exact ⟨by rw [h_cn, h_sn, h_cookie, h_proof, h_body]; rfl, hga ▸ B0.out⟩
          | true =>
           go_wp2_with fail
           refine (bytesEq S.tag T.tag D.tag E.tag x0 (HR.out.later B0.out).tag (KR.out.later B0.out).tag).mono ?_
           rintro e y ⟨rfl, rfl⟩
           go_wp2
           go_ret
           exact ⟨by rw [h_cn, h_sn, h_cookie, h_proof, h_body]; rfl, hga ▸ B0.out⟩

end Go.Proofs.YtpgapjdejelajaaGreatDoor.FrE
