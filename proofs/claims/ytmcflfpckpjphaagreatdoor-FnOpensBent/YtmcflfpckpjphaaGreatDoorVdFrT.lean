/-
  Closed facts on impl's interface: which word is of which type, and which method a word has.
-/
import Derived.Test.YtmcflfpckpjphaaGreatDoorProg
import Derived.WalkKit
import Derived.KernelRfl
set_option maxRecDepth 100000
namespace Go.Proofs.YtmcflfpckpjphaaGreatDoor.FrT
open Go.RowKit

theorem as1_4 (v : Value) (w : World) : (Instr.typeAssert (.iface 122 v) 87 132 true).run Tryz.prog w = .ok (.tuple #[.agg #[.slice none 0 0, .int .i64 0, .int .i64 0, .slice none 0 0, .slice none 0 0], .bool false]) w := by kernel_rfl
theorem as1_5 (v : Value) (w : World) : (Instr.typeAssert (.iface 122 v) 87 133 true).run Tryz.prog w = .ok (.tuple #[.agg #[.slice none 0 0, .int .i64 0, .int .i64 0, .slice none 0 0, .slice none 0 0], .bool false]) w := by kernel_rfl
theorem as1_6 (v : Value) (w : World) : (Instr.typeAssert (.iface 122 v) 87 134 true).run Tryz.prog w = .ok (.tuple #[.agg #[.slice none 0 0, .int .i64 0, .int .i64 0, .slice none 0 0, .slice none 0 0], .bool false]) w := by kernel_rfl
theorem as1_7 (v : Value) (w : World) : (Instr.typeAssert (.iface 122 v) 87 135 true).run Tryz.prog w = .ok (.tuple #[.agg #[.slice none 0 0, .int .i64 0, .int .i64 0, .slice none 0 0, .slice none 0 0], .bool false]) w := by kernel_rfl
theorem as1_8 (v : Value) (w : World) : (Instr.typeAssert (.iface 122 v) 87 136 true).run Tryz.prog w = .ok (.tuple #[.agg #[.slice none 0 0, .int .i64 0, .int .i64 0, .slice none 0 0, .slice none 0 0], .bool false]) w := by kernel_rfl
theorem as2_4 (v : Value) (w : World) : (Instr.typeAssert (.iface 124 v) 87 132 true).run Tryz.prog w = .ok (.tuple #[.agg #[.slice none 0 0, .int .i64 0, .int .i64 0, .slice none 0 0, .slice none 0 0], .bool false]) w := by kernel_rfl
theorem as2_5 (v : Value) (w : World) : (Instr.typeAssert (.iface 124 v) 87 133 true).run Tryz.prog w = .ok (.tuple #[.agg #[.slice none 0 0, .int .i64 0, .int .i64 0, .slice none 0 0, .slice none 0 0], .bool false]) w := by kernel_rfl
theorem as2_6 (v : Value) (w : World) : (Instr.typeAssert (.iface 124 v) 87 134 true).run Tryz.prog w = .ok (.tuple #[.agg #[.slice none 0 0, .int .i64 0, .int .i64 0, .slice none 0 0, .slice none 0 0], .bool false]) w := by kernel_rfl
theorem as2_7 (v : Value) (w : World) : (Instr.typeAssert (.iface 124 v) 87 135 true).run Tryz.prog w = .ok (.tuple #[.agg #[.slice none 0 0, .int .i64 0, .int .i64 0, .slice none 0 0, .slice none 0 0], .bool false]) w := by kernel_rfl
theorem as2_8 (v : Value) (w : World) : (Instr.typeAssert (.iface 124 v) 87 136 true).run Tryz.prog w = .ok (.tuple #[.agg #[.slice none 0 0, .int .i64 0, .int .i64 0, .slice none 0 0, .slice none 0 0], .bool false]) w := by kernel_rfl
theorem as3_4 (v : Value) (w : World) : (Instr.typeAssert (.iface 127 v) 87 132 true).run Tryz.prog w = .ok (.tuple #[.agg #[.slice none 0 0, .int .i64 0, .int .i64 0, .slice none 0 0, .slice none 0 0], .bool false]) w := by kernel_rfl
theorem as3_5 (v : Value) (w : World) : (Instr.typeAssert (.iface 127 v) 87 133 true).run Tryz.prog w = .ok (.tuple #[.agg #[.slice none 0 0, .int .i64 0, .int .i64 0, .slice none 0 0, .slice none 0 0], .bool false]) w := by kernel_rfl
theorem as3_6 (v : Value) (w : World) : (Instr.typeAssert (.iface 127 v) 87 134 true).run Tryz.prog w = .ok (.tuple #[.agg #[.slice none 0 0, .int .i64 0, .int .i64 0, .slice none 0 0, .slice none 0 0], .bool false]) w := by kernel_rfl
theorem as3_7 (v : Value) (w : World) : (Instr.typeAssert (.iface 127 v) 87 135 true).run Tryz.prog w = .ok (.tuple #[.agg #[.slice none 0 0, .int .i64 0, .int .i64 0, .slice none 0 0, .slice none 0 0], .bool false]) w := by kernel_rfl
theorem as3_8 (v : Value) (w : World) : (Instr.typeAssert (.iface 127 v) 87 136 true).run Tryz.prog w = .ok (.tuple #[.agg #[.slice none 0 0, .int .i64 0, .int .i64 0, .slice none 0 0, .slice none 0 0], .bool false]) w := by kernel_rfl
theorem as4_4 (v : Value) (w : World) : (Instr.typeAssert (.iface 132 v) 87 132 true).run Tryz.prog w = .ok (.tuple #[v, .bool true]) w := by kernel_rfl
theorem as4_5 (v : Value) (w : World) : (Instr.typeAssert (.iface 132 v) 87 133 true).run Tryz.prog w = .ok (.tuple #[.agg #[.slice none 0 0, .int .i64 0, .int .i64 0, .slice none 0 0, .slice none 0 0], .bool false]) w := by kernel_rfl
theorem as4_6 (v : Value) (w : World) : (Instr.typeAssert (.iface 132 v) 87 134 true).run Tryz.prog w = .ok (.tuple #[.agg #[.slice none 0 0, .int .i64 0, .int .i64 0, .slice none 0 0, .slice none 0 0], .bool false]) w := by kernel_rfl
theorem as4_7 (v : Value) (w : World) : (Instr.typeAssert (.iface 132 v) 87 135 true).run Tryz.prog w = .ok (.tuple #[.agg #[.slice none 0 0, .int .i64 0, .int .i64 0, .slice none 0 0, .slice none 0 0], .bool false]) w := by kernel_rfl
theorem as4_8 (v : Value) (w : World) : (Instr.typeAssert (.iface 132 v) 87 136 true).run Tryz.prog w = .ok (.tuple #[.agg #[.slice none 0 0, .int .i64 0, .int .i64 0, .slice none 0 0, .slice none 0 0], .bool false]) w := by kernel_rfl
theorem as5_4 (v : Value) (w : World) : (Instr.typeAssert (.iface 133 v) 87 132 true).run Tryz.prog w = .ok (.tuple #[.agg #[.slice none 0 0, .int .i64 0, .int .i64 0, .slice none 0 0, .slice none 0 0], .bool false]) w := by kernel_rfl
theorem as5_5 (v : Value) (w : World) : (Instr.typeAssert (.iface 133 v) 87 133 true).run Tryz.prog w = .ok (.tuple #[v, .bool true]) w := by kernel_rfl
theorem as5_6 (v : Value) (w : World) : (Instr.typeAssert (.iface 133 v) 87 134 true).run Tryz.prog w = .ok (.tuple #[.agg #[.slice none 0 0, .int .i64 0, .int .i64 0, .slice none 0 0, .slice none 0 0], .bool false]) w := by kernel_rfl
theorem as5_7 (v : Value) (w : World) : (Instr.typeAssert (.iface 133 v) 87 135 true).run Tryz.prog w = .ok (.tuple #[.agg #[.slice none 0 0, .int .i64 0, .int .i64 0, .slice none 0 0, .slice none 0 0], .bool false]) w := by kernel_rfl
theorem as5_8 (v : Value) (w : World) : (Instr.typeAssert (.iface 133 v) 87 136 true).run Tryz.prog w = .ok (.tuple #[.agg #[.slice none 0 0, .int .i64 0, .int .i64 0, .slice none 0 0, .slice none 0 0], .bool false]) w := by kernel_rfl
theorem as6_4 (v : Value) (w : World) : (Instr.typeAssert (.iface 134 v) 87 132 true).run Tryz.prog w = .ok (.tuple #[.agg #[.slice none 0 0, .int .i64 0, .int .i64 0, .slice none 0 0, .slice none 0 0], .bool false]) w := by kernel_rfl
theorem as6_5 (v : Value) (w : World) : (Instr.typeAssert (.iface 134 v) 87 133 true).run Tryz.prog w = .ok (.tuple #[.agg #[.slice none 0 0, .int .i64 0, .int .i64 0, .slice none 0 0, .slice none 0 0], .bool false]) w := by kernel_rfl
theorem as6_6 (v : Value) (w : World) : (Instr.typeAssert (.iface 134 v) 87 134 true).run Tryz.prog w = .ok (.tuple #[v, .bool true]) w := by kernel_rfl
theorem as6_7 (v : Value) (w : World) : (Instr.typeAssert (.iface 134 v) 87 135 true).run Tryz.prog w = .ok (.tuple #[.agg #[.slice none 0 0, .int .i64 0, .int .i64 0, .slice none 0 0, .slice none 0 0], .bool false]) w := by kernel_rfl
theorem as6_8 (v : Value) (w : World) : (Instr.typeAssert (.iface 134 v) 87 136 true).run Tryz.prog w = .ok (.tuple #[.agg #[.slice none 0 0, .int .i64 0, .int .i64 0, .slice none 0 0, .slice none 0 0], .bool false]) w := by kernel_rfl
theorem as7_4 (v : Value) (w : World) : (Instr.typeAssert (.iface 135 v) 87 132 true).run Tryz.prog w = .ok (.tuple #[.agg #[.slice none 0 0, .int .i64 0, .int .i64 0, .slice none 0 0, .slice none 0 0], .bool false]) w := by kernel_rfl
theorem as7_5 (v : Value) (w : World) : (Instr.typeAssert (.iface 135 v) 87 133 true).run Tryz.prog w = .ok (.tuple #[.agg #[.slice none 0 0, .int .i64 0, .int .i64 0, .slice none 0 0, .slice none 0 0], .bool false]) w := by kernel_rfl
theorem as7_6 (v : Value) (w : World) : (Instr.typeAssert (.iface 135 v) 87 134 true).run Tryz.prog w = .ok (.tuple #[.agg #[.slice none 0 0, .int .i64 0, .int .i64 0, .slice none 0 0, .slice none 0 0], .bool false]) w := by kernel_rfl
theorem as7_7 (v : Value) (w : World) : (Instr.typeAssert (.iface 135 v) 87 135 true).run Tryz.prog w = .ok (.tuple #[v, .bool true]) w := by kernel_rfl
theorem as7_8 (v : Value) (w : World) : (Instr.typeAssert (.iface 135 v) 87 136 true).run Tryz.prog w = .ok (.tuple #[.agg #[.slice none 0 0, .int .i64 0, .int .i64 0, .slice none 0 0, .slice none 0 0], .bool false]) w := by kernel_rfl
theorem as8_4 (v : Value) (w : World) : (Instr.typeAssert (.iface 136 v) 87 132 true).run Tryz.prog w = .ok (.tuple #[.agg #[.slice none 0 0, .int .i64 0, .int .i64 0, .slice none 0 0, .slice none 0 0], .bool false]) w := by kernel_rfl
theorem as8_5 (v : Value) (w : World) : (Instr.typeAssert (.iface 136 v) 87 133 true).run Tryz.prog w = .ok (.tuple #[.agg #[.slice none 0 0, .int .i64 0, .int .i64 0, .slice none 0 0, .slice none 0 0], .bool false]) w := by kernel_rfl
theorem as8_6 (v : Value) (w : World) : (Instr.typeAssert (.iface 136 v) 87 134 true).run Tryz.prog w = .ok (.tuple #[.agg #[.slice none 0 0, .int .i64 0, .int .i64 0, .slice none 0 0, .slice none 0 0], .bool false]) w := by kernel_rfl
theorem as8_7 (v : Value) (w : World) : (Instr.typeAssert (.iface 136 v) 87 135 true).run Tryz.prog w = .ok (.tuple #[.agg #[.slice none 0 0, .int .i64 0, .int .i64 0, .slice none 0 0, .slice none 0 0], .bool false]) w := by kernel_rfl
theorem as8_8 (v : Value) (w : World) : (Instr.typeAssert (.iface 136 v) 87 136 true).run Tryz.prog w = .ok (.tuple #[v, .bool true]) w := by kernel_rfl
theorem as0_4 (w : World) : (Instr.typeAssert .nilIface 87 132 true).run Tryz.prog w = .ok (.tuple #[.agg #[.slice none 0 0, .int .i64 0, .int .i64 0, .slice none 0 0, .slice none 0 0], .bool false]) w := by kernel_rfl
theorem as0_5 (w : World) : (Instr.typeAssert .nilIface 87 133 true).run Tryz.prog w = .ok (.tuple #[.agg #[.slice none 0 0, .int .i64 0, .int .i64 0, .slice none 0 0, .slice none 0 0], .bool false]) w := by kernel_rfl
theorem as0_6 (w : World) : (Instr.typeAssert .nilIface 87 134 true).run Tryz.prog w = .ok (.tuple #[.agg #[.slice none 0 0, .int .i64 0, .int .i64 0, .slice none 0 0, .slice none 0 0], .bool false]) w := by kernel_rfl
theorem as0_7 (w : World) : (Instr.typeAssert .nilIface 87 135 true).run Tryz.prog w = .ok (.tuple #[.agg #[.slice none 0 0, .int .i64 0, .int .i64 0, .slice none 0 0, .slice none 0 0], .bool false]) w := by kernel_rfl
theorem as0_8 (w : World) : (Instr.typeAssert .nilIface 87 136 true).run Tryz.prog w = .ok (.tuple #[.agg #[.slice none 0 0, .int .i64 0, .int .i64 0, .slice none 0 0, .slice none 0 0], .bool false]) w := by kernel_rfl
theorem ne1 (v : Value) (w : World) : (binOp .neq 87 (.iface 122 v) .nilIface).run Tryz.prog w = .ok (.bool true) w := by kernel_rfl
theorem mr1 (v : Value) (w : World) : (method 346 122 v "loop.example/g00478/impl.right").run Tryz.prog w = .ok (204, v) w := by kernel_rfl
theorem mf1 (v : Value) (w : World) : (method 346 122 v "loop.example/g00478/impl.frame").run Tryz.prog w = .ok (203, v) w := by kernel_rfl
theorem ne2 (v : Value) (w : World) : (binOp .neq 87 (.iface 124 v) .nilIface).run Tryz.prog w = .ok (.bool true) w := by kernel_rfl
theorem mr2 (v : Value) (w : World) : (method 346 124 v "loop.example/g00478/impl.right").run Tryz.prog w = .ok (207, v) w := by kernel_rfl
theorem mf2 (v : Value) (w : World) : (method 346 124 v "loop.example/g00478/impl.frame").run Tryz.prog w = .ok (206, v) w := by kernel_rfl
theorem ne3 (v : Value) (w : World) : (binOp .neq 87 (.iface 127 v) .nilIface).run Tryz.prog w = .ok (.bool true) w := by kernel_rfl
theorem mr3 (v : Value) (w : World) : (method 346 127 v "loop.example/g00478/impl.right").run Tryz.prog w = .ok (211, v) w := by kernel_rfl
theorem mf3 (v : Value) (w : World) : (method 346 127 v "loop.example/g00478/impl.frame").run Tryz.prog w = .ok (210, v) w := by kernel_rfl
theorem ne4 (v : Value) (w : World) : (binOp .neq 87 (.iface 132 v) .nilIface).run Tryz.prog w = .ok (.bool true) w := by kernel_rfl
theorem mr4 (v : Value) (w : World) : (method 346 132 v "loop.example/g00478/impl.right").run Tryz.prog w = .ok (215, v) w := by kernel_rfl
theorem mf4 (v : Value) (w : World) : (method 346 132 v "loop.example/g00478/impl.frame").run Tryz.prog w = .ok (214, v) w := by kernel_rfl
theorem ne5 (v : Value) (w : World) : (binOp .neq 87 (.iface 133 v) .nilIface).run Tryz.prog w = .ok (.bool true) w := by kernel_rfl
theorem mr5 (v : Value) (w : World) : (method 346 133 v "loop.example/g00478/impl.right").run Tryz.prog w = .ok (217, v) w := by kernel_rfl
theorem mf5 (v : Value) (w : World) : (method 346 133 v "loop.example/g00478/impl.frame").run Tryz.prog w = .ok (216, v) w := by kernel_rfl
theorem ne6 (v : Value) (w : World) : (binOp .neq 87 (.iface 134 v) .nilIface).run Tryz.prog w = .ok (.bool true) w := by kernel_rfl
theorem mr6 (v : Value) (w : World) : (method 346 134 v "loop.example/g00478/impl.right").run Tryz.prog w = .ok (219, v) w := by kernel_rfl
theorem mf6 (v : Value) (w : World) : (method 346 134 v "loop.example/g00478/impl.frame").run Tryz.prog w = .ok (218, v) w := by kernel_rfl
theorem ne7 (v : Value) (w : World) : (binOp .neq 87 (.iface 135 v) .nilIface).run Tryz.prog w = .ok (.bool true) w := by kernel_rfl
theorem mr7 (v : Value) (w : World) : (method 346 135 v "loop.example/g00478/impl.right").run Tryz.prog w = .ok (221, v) w := by kernel_rfl
theorem mf7 (v : Value) (w : World) : (method 346 135 v "loop.example/g00478/impl.frame").run Tryz.prog w = .ok (220, v) w := by kernel_rfl
theorem ne8 (v : Value) (w : World) : (binOp .neq 87 (.iface 136 v) .nilIface).run Tryz.prog w = .ok (.bool true) w := by kernel_rfl
theorem mr8 (v : Value) (w : World) : (method 346 136 v "loop.example/g00478/impl.right").run Tryz.prog w = .ok (223, v) w := by kernel_rfl
theorem mf8 (v : Value) (w : World) : (method 346 136 v "loop.example/g00478/impl.frame").run Tryz.prog w = .ok (222, v) w := by kernel_rfl
theorem ne0 (w : World) : (binOp .neq 87 .nilIface .nilIface).run Tryz.prog w = .ok (.bool false) w := by kernel_rfl
end Go.Proofs.YtmcflfpckpjphaaGreatDoor.FrT
