/-
  Closed facts on impl's interface: which word is of which type, and which method a word has.
-/
import Derived.Test.YtfapehmbecgjaaaDoorProg
import Derived.WalkKit
import Derived.KernelRfl
namespace Go.Proofs.YtfapehmbecgjaaaDoor.FrT
open Go.RowKit

theorem as1_1 (v : Value) (w : World) : (Instr.typeAssert (.iface 56 v) 39 56 true).run Tryd.prog w = .ok (.tuple #[v, .bool true]) w := by kernel_rfl
theorem as1_2 (v : Value) (w : World) : (Instr.typeAssert (.iface 56 v) 39 58 true).run Tryd.prog w = .ok (.tuple #[.agg #[.slice none 0 0, .slice none 0 0, .int .i64 0, .slice none 0 0], .bool false]) w := by kernel_rfl
theorem as1_3 (v : Value) (w : World) : (Instr.typeAssert (.iface 56 v) 39 61 true).run Tryd.prog w = .ok (.tuple #[.agg #[.int .i64 0, .slice none 0 0, .slice none 0 0, .int .i64 0, .slice none 0 0, .slice none 0 0], .bool false]) w := by kernel_rfl
theorem as1_4 (v : Value) (w : World) : (Instr.typeAssert (.iface 56 v) 39 50 true).run Tryd.prog w = .ok (.tuple #[.agg #[.slice none 0 0, .int .i64 0, .int .i64 0, .slice none 0 0, .slice none 0 0], .bool false]) w := by kernel_rfl
theorem as1_5 (v : Value) (w : World) : (Instr.typeAssert (.iface 56 v) 39 51 true).run Tryd.prog w = .ok (.tuple #[.agg #[.slice none 0 0, .int .i64 0, .int .i64 0, .slice none 0 0, .slice none 0 0], .bool false]) w := by kernel_rfl
theorem as1_6 (v : Value) (w : World) : (Instr.typeAssert (.iface 56 v) 39 52 true).run Tryd.prog w = .ok (.tuple #[.agg #[.slice none 0 0, .int .i64 0, .int .i64 0, .slice none 0 0, .slice none 0 0], .bool false]) w := by kernel_rfl
theorem as1_7 (v : Value) (w : World) : (Instr.typeAssert (.iface 56 v) 39 53 true).run Tryd.prog w = .ok (.tuple #[.agg #[.slice none 0 0, .int .i64 0, .int .i64 0, .slice none 0 0, .slice none 0 0], .bool false]) w := by kernel_rfl
theorem as1_8 (v : Value) (w : World) : (Instr.typeAssert (.iface 56 v) 39 54 true).run Tryd.prog w = .ok (.tuple #[.agg #[.slice none 0 0, .int .i64 0, .int .i64 0, .slice none 0 0, .slice none 0 0], .bool false]) w := by kernel_rfl
theorem as2_1 (v : Value) (w : World) : (Instr.typeAssert (.iface 58 v) 39 56 true).run Tryd.prog w = .ok (.tuple #[.agg #[.int .i64 0, .slice none 0 0], .bool false]) w := by kernel_rfl
theorem as2_2 (v : Value) (w : World) : (Instr.typeAssert (.iface 58 v) 39 58 true).run Tryd.prog w = .ok (.tuple #[v, .bool true]) w := by kernel_rfl
theorem as2_3 (v : Value) (w : World) : (Instr.typeAssert (.iface 58 v) 39 61 true).run Tryd.prog w = .ok (.tuple #[.agg #[.int .i64 0, .slice none 0 0, .slice none 0 0, .int .i64 0, .slice none 0 0, .slice none 0 0], .bool false]) w := by kernel_rfl
theorem as2_4 (v : Value) (w : World) : (Instr.typeAssert (.iface 58 v) 39 50 true).run Tryd.prog w = .ok (.tuple #[.agg #[.slice none 0 0, .int .i64 0, .int .i64 0, .slice none 0 0, .slice none 0 0], .bool false]) w := by kernel_rfl
theorem as2_5 (v : Value) (w : World) : (Instr.typeAssert (.iface 58 v) 39 51 true).run Tryd.prog w = .ok (.tuple #[.agg #[.slice none 0 0, .int .i64 0, .int .i64 0, .slice none 0 0, .slice none 0 0], .bool false]) w := by kernel_rfl
theorem as2_6 (v : Value) (w : World) : (Instr.typeAssert (.iface 58 v) 39 52 true).run Tryd.prog w = .ok (.tuple #[.agg #[.slice none 0 0, .int .i64 0, .int .i64 0, .slice none 0 0, .slice none 0 0], .bool false]) w := by kernel_rfl
theorem as2_7 (v : Value) (w : World) : (Instr.typeAssert (.iface 58 v) 39 53 true).run Tryd.prog w = .ok (.tuple #[.agg #[.slice none 0 0, .int .i64 0, .int .i64 0, .slice none 0 0, .slice none 0 0], .bool false]) w := by kernel_rfl
theorem as2_8 (v : Value) (w : World) : (Instr.typeAssert (.iface 58 v) 39 54 true).run Tryd.prog w = .ok (.tuple #[.agg #[.slice none 0 0, .int .i64 0, .int .i64 0, .slice none 0 0, .slice none 0 0], .bool false]) w := by kernel_rfl
theorem as3_1 (v : Value) (w : World) : (Instr.typeAssert (.iface 61 v) 39 56 true).run Tryd.prog w = .ok (.tuple #[.agg #[.int .i64 0, .slice none 0 0], .bool false]) w := by kernel_rfl
theorem as3_2 (v : Value) (w : World) : (Instr.typeAssert (.iface 61 v) 39 58 true).run Tryd.prog w = .ok (.tuple #[.agg #[.slice none 0 0, .slice none 0 0, .int .i64 0, .slice none 0 0], .bool false]) w := by kernel_rfl
theorem as3_3 (v : Value) (w : World) : (Instr.typeAssert (.iface 61 v) 39 61 true).run Tryd.prog w = .ok (.tuple #[v, .bool true]) w := by kernel_rfl
theorem as3_4 (v : Value) (w : World) : (Instr.typeAssert (.iface 61 v) 39 50 true).run Tryd.prog w = .ok (.tuple #[.agg #[.slice none 0 0, .int .i64 0, .int .i64 0, .slice none 0 0, .slice none 0 0], .bool false]) w := by kernel_rfl
theorem as3_5 (v : Value) (w : World) : (Instr.typeAssert (.iface 61 v) 39 51 true).run Tryd.prog w = .ok (.tuple #[.agg #[.slice none 0 0, .int .i64 0, .int .i64 0, .slice none 0 0, .slice none 0 0], .bool false]) w := by kernel_rfl
theorem as3_6 (v : Value) (w : World) : (Instr.typeAssert (.iface 61 v) 39 52 true).run Tryd.prog w = .ok (.tuple #[.agg #[.slice none 0 0, .int .i64 0, .int .i64 0, .slice none 0 0, .slice none 0 0], .bool false]) w := by kernel_rfl
theorem as3_7 (v : Value) (w : World) : (Instr.typeAssert (.iface 61 v) 39 53 true).run Tryd.prog w = .ok (.tuple #[.agg #[.slice none 0 0, .int .i64 0, .int .i64 0, .slice none 0 0, .slice none 0 0], .bool false]) w := by kernel_rfl
theorem as3_8 (v : Value) (w : World) : (Instr.typeAssert (.iface 61 v) 39 54 true).run Tryd.prog w = .ok (.tuple #[.agg #[.slice none 0 0, .int .i64 0, .int .i64 0, .slice none 0 0, .slice none 0 0], .bool false]) w := by kernel_rfl
theorem as4_1 (v : Value) (w : World) : (Instr.typeAssert (.iface 50 v) 39 56 true).run Tryd.prog w = .ok (.tuple #[.agg #[.int .i64 0, .slice none 0 0], .bool false]) w := by kernel_rfl
theorem as4_2 (v : Value) (w : World) : (Instr.typeAssert (.iface 50 v) 39 58 true).run Tryd.prog w = .ok (.tuple #[.agg #[.slice none 0 0, .slice none 0 0, .int .i64 0, .slice none 0 0], .bool false]) w := by kernel_rfl
theorem as4_3 (v : Value) (w : World) : (Instr.typeAssert (.iface 50 v) 39 61 true).run Tryd.prog w = .ok (.tuple #[.agg #[.int .i64 0, .slice none 0 0, .slice none 0 0, .int .i64 0, .slice none 0 0, .slice none 0 0], .bool false]) w := by kernel_rfl
theorem as4_4 (v : Value) (w : World) : (Instr.typeAssert (.iface 50 v) 39 50 true).run Tryd.prog w = .ok (.tuple #[v, .bool true]) w := by kernel_rfl
theorem as4_5 (v : Value) (w : World) : (Instr.typeAssert (.iface 50 v) 39 51 true).run Tryd.prog w = .ok (.tuple #[.agg #[.slice none 0 0, .int .i64 0, .int .i64 0, .slice none 0 0, .slice none 0 0], .bool false]) w := by kernel_rfl
theorem as4_6 (v : Value) (w : World) : (Instr.typeAssert (.iface 50 v) 39 52 true).run Tryd.prog w = .ok (.tuple #[.agg #[.slice none 0 0, .int .i64 0, .int .i64 0, .slice none 0 0, .slice none 0 0], .bool false]) w := by kernel_rfl
theorem as4_7 (v : Value) (w : World) : (Instr.typeAssert (.iface 50 v) 39 53 true).run Tryd.prog w = .ok (.tuple #[.agg #[.slice none 0 0, .int .i64 0, .int .i64 0, .slice none 0 0, .slice none 0 0], .bool false]) w := by kernel_rfl
theorem as4_8 (v : Value) (w : World) : (Instr.typeAssert (.iface 50 v) 39 54 true).run Tryd.prog w = .ok (.tuple #[.agg #[.slice none 0 0, .int .i64 0, .int .i64 0, .slice none 0 0, .slice none 0 0], .bool false]) w := by kernel_rfl
theorem as5_1 (v : Value) (w : World) : (Instr.typeAssert (.iface 51 v) 39 56 true).run Tryd.prog w = .ok (.tuple #[.agg #[.int .i64 0, .slice none 0 0], .bool false]) w := by kernel_rfl
theorem as5_2 (v : Value) (w : World) : (Instr.typeAssert (.iface 51 v) 39 58 true).run Tryd.prog w = .ok (.tuple #[.agg #[.slice none 0 0, .slice none 0 0, .int .i64 0, .slice none 0 0], .bool false]) w := by kernel_rfl
theorem as5_3 (v : Value) (w : World) : (Instr.typeAssert (.iface 51 v) 39 61 true).run Tryd.prog w = .ok (.tuple #[.agg #[.int .i64 0, .slice none 0 0, .slice none 0 0, .int .i64 0, .slice none 0 0, .slice none 0 0], .bool false]) w := by kernel_rfl
theorem as5_4 (v : Value) (w : World) : (Instr.typeAssert (.iface 51 v) 39 50 true).run Tryd.prog w = .ok (.tuple #[.agg #[.slice none 0 0, .int .i64 0, .int .i64 0, .slice none 0 0, .slice none 0 0], .bool false]) w := by kernel_rfl
theorem as5_5 (v : Value) (w : World) : (Instr.typeAssert (.iface 51 v) 39 51 true).run Tryd.prog w = .ok (.tuple #[v, .bool true]) w := by kernel_rfl
theorem as5_6 (v : Value) (w : World) : (Instr.typeAssert (.iface 51 v) 39 52 true).run Tryd.prog w = .ok (.tuple #[.agg #[.slice none 0 0, .int .i64 0, .int .i64 0, .slice none 0 0, .slice none 0 0], .bool false]) w := by kernel_rfl
theorem as5_7 (v : Value) (w : World) : (Instr.typeAssert (.iface 51 v) 39 53 true).run Tryd.prog w = .ok (.tuple #[.agg #[.slice none 0 0, .int .i64 0, .int .i64 0, .slice none 0 0, .slice none 0 0], .bool false]) w := by kernel_rfl
theorem as5_8 (v : Value) (w : World) : (Instr.typeAssert (.iface 51 v) 39 54 true).run Tryd.prog w = .ok (.tuple #[.agg #[.slice none 0 0, .int .i64 0, .int .i64 0, .slice none 0 0, .slice none 0 0], .bool false]) w := by kernel_rfl
theorem as6_1 (v : Value) (w : World) : (Instr.typeAssert (.iface 52 v) 39 56 true).run Tryd.prog w = .ok (.tuple #[.agg #[.int .i64 0, .slice none 0 0], .bool false]) w := by kernel_rfl
theorem as6_2 (v : Value) (w : World) : (Instr.typeAssert (.iface 52 v) 39 58 true).run Tryd.prog w = .ok (.tuple #[.agg #[.slice none 0 0, .slice none 0 0, .int .i64 0, .slice none 0 0], .bool false]) w := by kernel_rfl
theorem as6_3 (v : Value) (w : World) : (Instr.typeAssert (.iface 52 v) 39 61 true).run Tryd.prog w = .ok (.tuple #[.agg #[.int .i64 0, .slice none 0 0, .slice none 0 0, .int .i64 0, .slice none 0 0, .slice none 0 0], .bool false]) w := by kernel_rfl
theorem as6_4 (v : Value) (w : World) : (Instr.typeAssert (.iface 52 v) 39 50 true).run Tryd.prog w = .ok (.tuple #[.agg #[.slice none 0 0, .int .i64 0, .int .i64 0, .slice none 0 0, .slice none 0 0], .bool false]) w := by kernel_rfl
theorem as6_5 (v : Value) (w : World) : (Instr.typeAssert (.iface 52 v) 39 51 true).run Tryd.prog w = .ok (.tuple #[.agg #[.slice none 0 0, .int .i64 0, .int .i64 0, .slice none 0 0, .slice none 0 0], .bool false]) w := by kernel_rfl
theorem as6_6 (v : Value) (w : World) : (Instr.typeAssert (.iface 52 v) 39 52 true).run Tryd.prog w = .ok (.tuple #[v, .bool true]) w := by kernel_rfl
theorem as6_7 (v : Value) (w : World) : (Instr.typeAssert (.iface 52 v) 39 53 true).run Tryd.prog w = .ok (.tuple #[.agg #[.slice none 0 0, .int .i64 0, .int .i64 0, .slice none 0 0, .slice none 0 0], .bool false]) w := by kernel_rfl
theorem as6_8 (v : Value) (w : World) : (Instr.typeAssert (.iface 52 v) 39 54 true).run Tryd.prog w = .ok (.tuple #[.agg #[.slice none 0 0, .int .i64 0, .int .i64 0, .slice none 0 0, .slice none 0 0], .bool false]) w := by kernel_rfl
theorem as7_1 (v : Value) (w : World) : (Instr.typeAssert (.iface 53 v) 39 56 true).run Tryd.prog w = .ok (.tuple #[.agg #[.int .i64 0, .slice none 0 0], .bool false]) w := by kernel_rfl
theorem as7_2 (v : Value) (w : World) : (Instr.typeAssert (.iface 53 v) 39 58 true).run Tryd.prog w = .ok (.tuple #[.agg #[.slice none 0 0, .slice none 0 0, .int .i64 0, .slice none 0 0], .bool false]) w := by kernel_rfl
theorem as7_3 (v : Value) (w : World) : (Instr.typeAssert (.iface 53 v) 39 61 true).run Tryd.prog w = .ok (.tuple #[.agg #[.int .i64 0, .slice none 0 0, .slice none 0 0, .int .i64 0, .slice none 0 0, .slice none 0 0], .bool false]) w := by kernel_rfl
theorem as7_4 (v : Value) (w : World) : (Instr.typeAssert (.iface 53 v) 39 50 true).run Tryd.prog w = .ok (.tuple #[.agg #[.slice none 0 0, .int .i64 0, .int .i64 0, .slice none 0 0, .slice none 0 0], .bool false]) w := by kernel_rfl
theorem as7_5 (v : Value) (w : World) : (Instr.typeAssert (.iface 53 v) 39 51 true).run Tryd.prog w = .ok (.tuple #[.agg #[.slice none 0 0, .int .i64 0, .int .i64 0, .slice none 0 0, .slice none 0 0], .bool false]) w := by kernel_rfl
theorem as7_6 (v : Value) (w : World) : (Instr.typeAssert (.iface 53 v) 39 52 true).run Tryd.prog w = .ok (.tuple #[.agg #[.slice none 0 0, .int .i64 0, .int .i64 0, .slice none 0 0, .slice none 0 0], .bool false]) w := by kernel_rfl
theorem as7_7 (v : Value) (w : World) : (Instr.typeAssert (.iface 53 v) 39 53 true).run Tryd.prog w = .ok (.tuple #[v, .bool true]) w := by kernel_rfl
theorem as7_8 (v : Value) (w : World) : (Instr.typeAssert (.iface 53 v) 39 54 true).run Tryd.prog w = .ok (.tuple #[.agg #[.slice none 0 0, .int .i64 0, .int .i64 0, .slice none 0 0, .slice none 0 0], .bool false]) w := by kernel_rfl
theorem as8_1 (v : Value) (w : World) : (Instr.typeAssert (.iface 54 v) 39 56 true).run Tryd.prog w = .ok (.tuple #[.agg #[.int .i64 0, .slice none 0 0], .bool false]) w := by kernel_rfl
theorem as8_2 (v : Value) (w : World) : (Instr.typeAssert (.iface 54 v) 39 58 true).run Tryd.prog w = .ok (.tuple #[.agg #[.slice none 0 0, .slice none 0 0, .int .i64 0, .slice none 0 0], .bool false]) w := by kernel_rfl
theorem as8_3 (v : Value) (w : World) : (Instr.typeAssert (.iface 54 v) 39 61 true).run Tryd.prog w = .ok (.tuple #[.agg #[.int .i64 0, .slice none 0 0, .slice none 0 0, .int .i64 0, .slice none 0 0, .slice none 0 0], .bool false]) w := by kernel_rfl
theorem as8_4 (v : Value) (w : World) : (Instr.typeAssert (.iface 54 v) 39 50 true).run Tryd.prog w = .ok (.tuple #[.agg #[.slice none 0 0, .int .i64 0, .int .i64 0, .slice none 0 0, .slice none 0 0], .bool false]) w := by kernel_rfl
theorem as8_5 (v : Value) (w : World) : (Instr.typeAssert (.iface 54 v) 39 51 true).run Tryd.prog w = .ok (.tuple #[.agg #[.slice none 0 0, .int .i64 0, .int .i64 0, .slice none 0 0, .slice none 0 0], .bool false]) w := by kernel_rfl
theorem as8_6 (v : Value) (w : World) : (Instr.typeAssert (.iface 54 v) 39 52 true).run Tryd.prog w = .ok (.tuple #[.agg #[.slice none 0 0, .int .i64 0, .int .i64 0, .slice none 0 0, .slice none 0 0], .bool false]) w := by kernel_rfl
theorem as8_7 (v : Value) (w : World) : (Instr.typeAssert (.iface 54 v) 39 53 true).run Tryd.prog w = .ok (.tuple #[.agg #[.slice none 0 0, .int .i64 0, .int .i64 0, .slice none 0 0, .slice none 0 0], .bool false]) w := by kernel_rfl
theorem as8_8 (v : Value) (w : World) : (Instr.typeAssert (.iface 54 v) 39 54 true).run Tryd.prog w = .ok (.tuple #[v, .bool true]) w := by kernel_rfl
theorem as0_1 (w : World) : (Instr.typeAssert .nilIface 39 56 true).run Tryd.prog w = .ok (.tuple #[.agg #[.int .i64 0, .slice none 0 0], .bool false]) w := by kernel_rfl
theorem as0_2 (w : World) : (Instr.typeAssert .nilIface 39 58 true).run Tryd.prog w = .ok (.tuple #[.agg #[.slice none 0 0, .slice none 0 0, .int .i64 0, .slice none 0 0], .bool false]) w := by kernel_rfl
theorem as0_3 (w : World) : (Instr.typeAssert .nilIface 39 61 true).run Tryd.prog w = .ok (.tuple #[.agg #[.int .i64 0, .slice none 0 0, .slice none 0 0, .int .i64 0, .slice none 0 0, .slice none 0 0], .bool false]) w := by kernel_rfl
theorem as0_4 (w : World) : (Instr.typeAssert .nilIface 39 50 true).run Tryd.prog w = .ok (.tuple #[.agg #[.slice none 0 0, .int .i64 0, .int .i64 0, .slice none 0 0, .slice none 0 0], .bool false]) w := by kernel_rfl
theorem as0_5 (w : World) : (Instr.typeAssert .nilIface 39 51 true).run Tryd.prog w = .ok (.tuple #[.agg #[.slice none 0 0, .int .i64 0, .int .i64 0, .slice none 0 0, .slice none 0 0], .bool false]) w := by kernel_rfl
theorem as0_6 (w : World) : (Instr.typeAssert .nilIface 39 52 true).run Tryd.prog w = .ok (.tuple #[.agg #[.slice none 0 0, .int .i64 0, .int .i64 0, .slice none 0 0, .slice none 0 0], .bool false]) w := by kernel_rfl
theorem as0_7 (w : World) : (Instr.typeAssert .nilIface 39 53 true).run Tryd.prog w = .ok (.tuple #[.agg #[.slice none 0 0, .int .i64 0, .int .i64 0, .slice none 0 0, .slice none 0 0], .bool false]) w := by kernel_rfl
theorem as0_8 (w : World) : (Instr.typeAssert .nilIface 39 54 true).run Tryd.prog w = .ok (.tuple #[.agg #[.slice none 0 0, .int .i64 0, .int .i64 0, .slice none 0 0, .slice none 0 0], .bool false]) w := by kernel_rfl
theorem ne1 (v : Value) (w : World) : (binOp .neq 39 (.iface 56 v) .nilIface).run Tryd.prog w = .ok (.bool true) w := by kernel_rfl
theorem mr1 (v : Value) (w : World) : (method 183 56 v "loop.example/g00478/impl.right").run Tryd.prog w = .ok (51, v) w := by kernel_rfl
theorem mf1 (v : Value) (w : World) : (method 183 56 v "loop.example/g00478/impl.frame").run Tryd.prog w = .ok (50, v) w := by kernel_rfl
theorem ne2 (v : Value) (w : World) : (binOp .neq 39 (.iface 58 v) .nilIface).run Tryd.prog w = .ok (.bool true) w := by kernel_rfl
theorem mr2 (v : Value) (w : World) : (method 183 58 v "loop.example/g00478/impl.right").run Tryd.prog w = .ok (53, v) w := by kernel_rfl
theorem mf2 (v : Value) (w : World) : (method 183 58 v "loop.example/g00478/impl.frame").run Tryd.prog w = .ok (52, v) w := by kernel_rfl
theorem ne3 (v : Value) (w : World) : (binOp .neq 39 (.iface 61 v) .nilIface).run Tryd.prog w = .ok (.bool true) w := by kernel_rfl
theorem mr3 (v : Value) (w : World) : (method 183 61 v "loop.example/g00478/impl.right").run Tryd.prog w = .ok (55, v) w := by kernel_rfl
theorem mf3 (v : Value) (w : World) : (method 183 61 v "loop.example/g00478/impl.frame").run Tryd.prog w = .ok (54, v) w := by kernel_rfl
theorem ne4 (v : Value) (w : World) : (binOp .neq 39 (.iface 50 v) .nilIface).run Tryd.prog w = .ok (.bool true) w := by kernel_rfl
theorem mr4 (v : Value) (w : World) : (method 183 50 v "loop.example/g00478/impl.right").run Tryd.prog w = .ok (41, v) w := by kernel_rfl
theorem mf4 (v : Value) (w : World) : (method 183 50 v "loop.example/g00478/impl.frame").run Tryd.prog w = .ok (40, v) w := by kernel_rfl
theorem ne5 (v : Value) (w : World) : (binOp .neq 39 (.iface 51 v) .nilIface).run Tryd.prog w = .ok (.bool true) w := by kernel_rfl
theorem mr5 (v : Value) (w : World) : (method 183 51 v "loop.example/g00478/impl.right").run Tryd.prog w = .ok (43, v) w := by kernel_rfl
theorem mf5 (v : Value) (w : World) : (method 183 51 v "loop.example/g00478/impl.frame").run Tryd.prog w = .ok (42, v) w := by kernel_rfl
theorem ne6 (v : Value) (w : World) : (binOp .neq 39 (.iface 52 v) .nilIface).run Tryd.prog w = .ok (.bool true) w := by kernel_rfl
theorem mr6 (v : Value) (w : World) : (method 183 52 v "loop.example/g00478/impl.right").run Tryd.prog w = .ok (45, v) w := by kernel_rfl
theorem mf6 (v : Value) (w : World) : (method 183 52 v "loop.example/g00478/impl.frame").run Tryd.prog w = .ok (44, v) w := by kernel_rfl
theorem ne7 (v : Value) (w : World) : (binOp .neq 39 (.iface 53 v) .nilIface).run Tryd.prog w = .ok (.bool true) w := by kernel_rfl
theorem mr7 (v : Value) (w : World) : (method 183 53 v "loop.example/g00478/impl.right").run Tryd.prog w = .ok (47, v) w := by kernel_rfl
theorem mf7 (v : Value) (w : World) : (method 183 53 v "loop.example/g00478/impl.frame").run Tryd.prog w = .ok (46, v) w := by kernel_rfl
theorem ne8 (v : Value) (w : World) : (binOp .neq 39 (.iface 54 v) .nilIface).run Tryd.prog w = .ok (.bool true) w := by kernel_rfl
theorem mr8 (v : Value) (w : World) : (method 183 54 v "loop.example/g00478/impl.right").run Tryd.prog w = .ok (49, v) w := by kernel_rfl
theorem mf8 (v : Value) (w : World) : (method 183 54 v "loop.example/g00478/impl.frame").run Tryd.prog w = .ok (48, v) w := by kernel_rfl
theorem ne0 (w : World) : (binOp .neq 39 .nilIface .nilIface).run Tryd.prog w = .ok (.bool false) w := by kernel_rfl
end Go.Proofs.YtfapehmbecgjaaaDoor.FrT
