/-
  Closed facts on impl's interface: which word is of which type, and which method a word has.
-/
import Derived.Test.YtfapehmbecgjaaaProg
import Derived.WalkKit
import Derived.KernelRfl
namespace Go.Proofs.Ytfapehmbecgjaaa.FrT
open Go.RowKit

theorem as1_1 (v : Value) (w : World) : (Instr.typeAssert (.iface 65 v) 47 65 true).run Try.prog w = .ok (.tuple #[v, .bool true]) w := by kernel_rfl
theorem as1_2 (v : Value) (w : World) : (Instr.typeAssert (.iface 65 v) 47 68 true).run Try.prog w = .ok (.tuple #[.agg #[.slice none 0 0, .slice none 0 0, .int .i64 0, .slice none 0 0], .bool false]) w := by kernel_rfl
theorem as1_3 (v : Value) (w : World) : (Instr.typeAssert (.iface 65 v) 47 71 true).run Try.prog w = .ok (.tuple #[.agg #[.int .i64 0, .slice none 0 0, .slice none 0 0, .int .i64 0, .slice none 0 0, .slice none 0 0], .bool false]) w := by kernel_rfl
theorem as1_4 (v : Value) (w : World) : (Instr.typeAssert (.iface 65 v) 47 77 true).run Try.prog w = .ok (.tuple #[.agg #[.slice none 0 0, .int .i64 0, .int .i64 0, .slice none 0 0, .slice none 0 0], .bool false]) w := by kernel_rfl
theorem as1_5 (v : Value) (w : World) : (Instr.typeAssert (.iface 65 v) 47 78 true).run Try.prog w = .ok (.tuple #[.agg #[.slice none 0 0, .int .i64 0, .int .i64 0, .slice none 0 0, .slice none 0 0], .bool false]) w := by kernel_rfl
theorem as1_6 (v : Value) (w : World) : (Instr.typeAssert (.iface 65 v) 47 79 true).run Try.prog w = .ok (.tuple #[.agg #[.slice none 0 0, .int .i64 0, .int .i64 0, .slice none 0 0, .slice none 0 0], .bool false]) w := by kernel_rfl
theorem as1_7 (v : Value) (w : World) : (Instr.typeAssert (.iface 65 v) 47 80 true).run Try.prog w = .ok (.tuple #[.agg #[.slice none 0 0, .int .i64 0, .int .i64 0, .slice none 0 0, .slice none 0 0], .bool false]) w := by kernel_rfl
theorem as1_8 (v : Value) (w : World) : (Instr.typeAssert (.iface 65 v) 47 81 true).run Try.prog w = .ok (.tuple #[.agg #[.slice none 0 0, .int .i64 0, .int .i64 0, .slice none 0 0, .slice none 0 0], .bool false]) w := by kernel_rfl
theorem as2_1 (v : Value) (w : World) : (Instr.typeAssert (.iface 68 v) 47 65 true).run Try.prog w = .ok (.tuple #[.agg #[.int .i64 0, .slice none 0 0], .bool false]) w := by kernel_rfl
theorem as2_2 (v : Value) (w : World) : (Instr.typeAssert (.iface 68 v) 47 68 true).run Try.prog w = .ok (.tuple #[v, .bool true]) w := by kernel_rfl
theorem as2_3 (v : Value) (w : World) : (Instr.typeAssert (.iface 68 v) 47 71 true).run Try.prog w = .ok (.tuple #[.agg #[.int .i64 0, .slice none 0 0, .slice none 0 0, .int .i64 0, .slice none 0 0, .slice none 0 0], .bool false]) w := by kernel_rfl
theorem as2_4 (v : Value) (w : World) : (Instr.typeAssert (.iface 68 v) 47 77 true).run Try.prog w = .ok (.tuple #[.agg #[.slice none 0 0, .int .i64 0, .int .i64 0, .slice none 0 0, .slice none 0 0], .bool false]) w := by kernel_rfl
theorem as2_5 (v : Value) (w : World) : (Instr.typeAssert (.iface 68 v) 47 78 true).run Try.prog w = .ok (.tuple #[.agg #[.slice none 0 0, .int .i64 0, .int .i64 0, .slice none 0 0, .slice none 0 0], .bool false]) w := by kernel_rfl
theorem as2_6 (v : Value) (w : World) : (Instr.typeAssert (.iface 68 v) 47 79 true).run Try.prog w = .ok (.tuple #[.agg #[.slice none 0 0, .int .i64 0, .int .i64 0, .slice none 0 0, .slice none 0 0], .bool false]) w := by kernel_rfl
theorem as2_7 (v : Value) (w : World) : (Instr.typeAssert (.iface 68 v) 47 80 true).run Try.prog w = .ok (.tuple #[.agg #[.slice none 0 0, .int .i64 0, .int .i64 0, .slice none 0 0, .slice none 0 0], .bool false]) w := by kernel_rfl
theorem as2_8 (v : Value) (w : World) : (Instr.typeAssert (.iface 68 v) 47 81 true).run Try.prog w = .ok (.tuple #[.agg #[.slice none 0 0, .int .i64 0, .int .i64 0, .slice none 0 0, .slice none 0 0], .bool false]) w := by kernel_rfl
theorem as3_1 (v : Value) (w : World) : (Instr.typeAssert (.iface 71 v) 47 65 true).run Try.prog w = .ok (.tuple #[.agg #[.int .i64 0, .slice none 0 0], .bool false]) w := by kernel_rfl
theorem as3_2 (v : Value) (w : World) : (Instr.typeAssert (.iface 71 v) 47 68 true).run Try.prog w = .ok (.tuple #[.agg #[.slice none 0 0, .slice none 0 0, .int .i64 0, .slice none 0 0], .bool false]) w := by kernel_rfl
theorem as3_3 (v : Value) (w : World) : (Instr.typeAssert (.iface 71 v) 47 71 true).run Try.prog w = .ok (.tuple #[v, .bool true]) w := by kernel_rfl
theorem as3_4 (v : Value) (w : World) : (Instr.typeAssert (.iface 71 v) 47 77 true).run Try.prog w = .ok (.tuple #[.agg #[.slice none 0 0, .int .i64 0, .int .i64 0, .slice none 0 0, .slice none 0 0], .bool false]) w := by kernel_rfl
theorem as3_5 (v : Value) (w : World) : (Instr.typeAssert (.iface 71 v) 47 78 true).run Try.prog w = .ok (.tuple #[.agg #[.slice none 0 0, .int .i64 0, .int .i64 0, .slice none 0 0, .slice none 0 0], .bool false]) w := by kernel_rfl
theorem as3_6 (v : Value) (w : World) : (Instr.typeAssert (.iface 71 v) 47 79 true).run Try.prog w = .ok (.tuple #[.agg #[.slice none 0 0, .int .i64 0, .int .i64 0, .slice none 0 0, .slice none 0 0], .bool false]) w := by kernel_rfl
theorem as3_7 (v : Value) (w : World) : (Instr.typeAssert (.iface 71 v) 47 80 true).run Try.prog w = .ok (.tuple #[.agg #[.slice none 0 0, .int .i64 0, .int .i64 0, .slice none 0 0, .slice none 0 0], .bool false]) w := by kernel_rfl
theorem as3_8 (v : Value) (w : World) : (Instr.typeAssert (.iface 71 v) 47 81 true).run Try.prog w = .ok (.tuple #[.agg #[.slice none 0 0, .int .i64 0, .int .i64 0, .slice none 0 0, .slice none 0 0], .bool false]) w := by kernel_rfl
theorem as4_1 (v : Value) (w : World) : (Instr.typeAssert (.iface 77 v) 47 65 true).run Try.prog w = .ok (.tuple #[.agg #[.int .i64 0, .slice none 0 0], .bool false]) w := by kernel_rfl
theorem as4_2 (v : Value) (w : World) : (Instr.typeAssert (.iface 77 v) 47 68 true).run Try.prog w = .ok (.tuple #[.agg #[.slice none 0 0, .slice none 0 0, .int .i64 0, .slice none 0 0], .bool false]) w := by kernel_rfl
theorem as4_3 (v : Value) (w : World) : (Instr.typeAssert (.iface 77 v) 47 71 true).run Try.prog w = .ok (.tuple #[.agg #[.int .i64 0, .slice none 0 0, .slice none 0 0, .int .i64 0, .slice none 0 0, .slice none 0 0], .bool false]) w := by kernel_rfl
theorem as4_4 (v : Value) (w : World) : (Instr.typeAssert (.iface 77 v) 47 77 true).run Try.prog w = .ok (.tuple #[v, .bool true]) w := by kernel_rfl
theorem as4_5 (v : Value) (w : World) : (Instr.typeAssert (.iface 77 v) 47 78 true).run Try.prog w = .ok (.tuple #[.agg #[.slice none 0 0, .int .i64 0, .int .i64 0, .slice none 0 0, .slice none 0 0], .bool false]) w := by kernel_rfl
theorem as4_6 (v : Value) (w : World) : (Instr.typeAssert (.iface 77 v) 47 79 true).run Try.prog w = .ok (.tuple #[.agg #[.slice none 0 0, .int .i64 0, .int .i64 0, .slice none 0 0, .slice none 0 0], .bool false]) w := by kernel_rfl
theorem as4_7 (v : Value) (w : World) : (Instr.typeAssert (.iface 77 v) 47 80 true).run Try.prog w = .ok (.tuple #[.agg #[.slice none 0 0, .int .i64 0, .int .i64 0, .slice none 0 0, .slice none 0 0], .bool false]) w := by kernel_rfl
theorem as4_8 (v : Value) (w : World) : (Instr.typeAssert (.iface 77 v) 47 81 true).run Try.prog w = .ok (.tuple #[.agg #[.slice none 0 0, .int .i64 0, .int .i64 0, .slice none 0 0, .slice none 0 0], .bool false]) w := by kernel_rfl
theorem as5_1 (v : Value) (w : World) : (Instr.typeAssert (.iface 78 v) 47 65 true).run Try.prog w = .ok (.tuple #[.agg #[.int .i64 0, .slice none 0 0], .bool false]) w := by kernel_rfl
theorem as5_2 (v : Value) (w : World) : (Instr.typeAssert (.iface 78 v) 47 68 true).run Try.prog w = .ok (.tuple #[.agg #[.slice none 0 0, .slice none 0 0, .int .i64 0, .slice none 0 0], .bool false]) w := by kernel_rfl
theorem as5_3 (v : Value) (w : World) : (Instr.typeAssert (.iface 78 v) 47 71 true).run Try.prog w = .ok (.tuple #[.agg #[.int .i64 0, .slice none 0 0, .slice none 0 0, .int .i64 0, .slice none 0 0, .slice none 0 0], .bool false]) w := by kernel_rfl
theorem as5_4 (v : Value) (w : World) : (Instr.typeAssert (.iface 78 v) 47 77 true).run Try.prog w = .ok (.tuple #[.agg #[.slice none 0 0, .int .i64 0, .int .i64 0, .slice none 0 0, .slice none 0 0], .bool false]) w := by kernel_rfl
theorem as5_5 (v : Value) (w : World) : (Instr.typeAssert (.iface 78 v) 47 78 true).run Try.prog w = .ok (.tuple #[v, .bool true]) w := by kernel_rfl
theorem as5_6 (v : Value) (w : World) : (Instr.typeAssert (.iface 78 v) 47 79 true).run Try.prog w = .ok (.tuple #[.agg #[.slice none 0 0, .int .i64 0, .int .i64 0, .slice none 0 0, .slice none 0 0], .bool false]) w := by kernel_rfl
theorem as5_7 (v : Value) (w : World) : (Instr.typeAssert (.iface 78 v) 47 80 true).run Try.prog w = .ok (.tuple #[.agg #[.slice none 0 0, .int .i64 0, .int .i64 0, .slice none 0 0, .slice none 0 0], .bool false]) w := by kernel_rfl
theorem as5_8 (v : Value) (w : World) : (Instr.typeAssert (.iface 78 v) 47 81 true).run Try.prog w = .ok (.tuple #[.agg #[.slice none 0 0, .int .i64 0, .int .i64 0, .slice none 0 0, .slice none 0 0], .bool false]) w := by kernel_rfl
theorem as6_1 (v : Value) (w : World) : (Instr.typeAssert (.iface 79 v) 47 65 true).run Try.prog w = .ok (.tuple #[.agg #[.int .i64 0, .slice none 0 0], .bool false]) w := by kernel_rfl
theorem as6_2 (v : Value) (w : World) : (Instr.typeAssert (.iface 79 v) 47 68 true).run Try.prog w = .ok (.tuple #[.agg #[.slice none 0 0, .slice none 0 0, .int .i64 0, .slice none 0 0], .bool false]) w := by kernel_rfl
theorem as6_3 (v : Value) (w : World) : (Instr.typeAssert (.iface 79 v) 47 71 true).run Try.prog w = .ok (.tuple #[.agg #[.int .i64 0, .slice none 0 0, .slice none 0 0, .int .i64 0, .slice none 0 0, .slice none 0 0], .bool false]) w := by kernel_rfl
theorem as6_4 (v : Value) (w : World) : (Instr.typeAssert (.iface 79 v) 47 77 true).run Try.prog w = .ok (.tuple #[.agg #[.slice none 0 0, .int .i64 0, .int .i64 0, .slice none 0 0, .slice none 0 0], .bool false]) w := by kernel_rfl
theorem as6_5 (v : Value) (w : World) : (Instr.typeAssert (.iface 79 v) 47 78 true).run Try.prog w = .ok (.tuple #[.agg #[.slice none 0 0, .int .i64 0, .int .i64 0, .slice none 0 0, .slice none 0 0], .bool false]) w := by kernel_rfl
theorem as6_6 (v : Value) (w : World) : (Instr.typeAssert (.iface 79 v) 47 79 true).run Try.prog w = .ok (.tuple #[v, .bool true]) w := by kernel_rfl
theorem as6_7 (v : Value) (w : World) : (Instr.typeAssert (.iface 79 v) 47 80 true).run Try.prog w = .ok (.tuple #[.agg #[.slice none 0 0, .int .i64 0, .int .i64 0, .slice none 0 0, .slice none 0 0], .bool false]) w := by kernel_rfl
theorem as6_8 (v : Value) (w : World) : (Instr.typeAssert (.iface 79 v) 47 81 true).run Try.prog w = .ok (.tuple #[.agg #[.slice none 0 0, .int .i64 0, .int .i64 0, .slice none 0 0, .slice none 0 0], .bool false]) w := by kernel_rfl
theorem as7_1 (v : Value) (w : World) : (Instr.typeAssert (.iface 80 v) 47 65 true).run Try.prog w = .ok (.tuple #[.agg #[.int .i64 0, .slice none 0 0], .bool false]) w := by kernel_rfl
theorem as7_2 (v : Value) (w : World) : (Instr.typeAssert (.iface 80 v) 47 68 true).run Try.prog w = .ok (.tuple #[.agg #[.slice none 0 0, .slice none 0 0, .int .i64 0, .slice none 0 0], .bool false]) w := by kernel_rfl
theorem as7_3 (v : Value) (w : World) : (Instr.typeAssert (.iface 80 v) 47 71 true).run Try.prog w = .ok (.tuple #[.agg #[.int .i64 0, .slice none 0 0, .slice none 0 0, .int .i64 0, .slice none 0 0, .slice none 0 0], .bool false]) w := by kernel_rfl
theorem as7_4 (v : Value) (w : World) : (Instr.typeAssert (.iface 80 v) 47 77 true).run Try.prog w = .ok (.tuple #[.agg #[.slice none 0 0, .int .i64 0, .int .i64 0, .slice none 0 0, .slice none 0 0], .bool false]) w := by kernel_rfl
theorem as7_5 (v : Value) (w : World) : (Instr.typeAssert (.iface 80 v) 47 78 true).run Try.prog w = .ok (.tuple #[.agg #[.slice none 0 0, .int .i64 0, .int .i64 0, .slice none 0 0, .slice none 0 0], .bool false]) w := by kernel_rfl
theorem as7_6 (v : Value) (w : World) : (Instr.typeAssert (.iface 80 v) 47 79 true).run Try.prog w = .ok (.tuple #[.agg #[.slice none 0 0, .int .i64 0, .int .i64 0, .slice none 0 0, .slice none 0 0], .bool false]) w := by kernel_rfl
theorem as7_7 (v : Value) (w : World) : (Instr.typeAssert (.iface 80 v) 47 80 true).run Try.prog w = .ok (.tuple #[v, .bool true]) w := by kernel_rfl
theorem as7_8 (v : Value) (w : World) : (Instr.typeAssert (.iface 80 v) 47 81 true).run Try.prog w = .ok (.tuple #[.agg #[.slice none 0 0, .int .i64 0, .int .i64 0, .slice none 0 0, .slice none 0 0], .bool false]) w := by kernel_rfl
theorem as8_1 (v : Value) (w : World) : (Instr.typeAssert (.iface 81 v) 47 65 true).run Try.prog w = .ok (.tuple #[.agg #[.int .i64 0, .slice none 0 0], .bool false]) w := by kernel_rfl
theorem as8_2 (v : Value) (w : World) : (Instr.typeAssert (.iface 81 v) 47 68 true).run Try.prog w = .ok (.tuple #[.agg #[.slice none 0 0, .slice none 0 0, .int .i64 0, .slice none 0 0], .bool false]) w := by kernel_rfl
theorem as8_3 (v : Value) (w : World) : (Instr.typeAssert (.iface 81 v) 47 71 true).run Try.prog w = .ok (.tuple #[.agg #[.int .i64 0, .slice none 0 0, .slice none 0 0, .int .i64 0, .slice none 0 0, .slice none 0 0], .bool false]) w := by kernel_rfl
theorem as8_4 (v : Value) (w : World) : (Instr.typeAssert (.iface 81 v) 47 77 true).run Try.prog w = .ok (.tuple #[.agg #[.slice none 0 0, .int .i64 0, .int .i64 0, .slice none 0 0, .slice none 0 0], .bool false]) w := by kernel_rfl
theorem as8_5 (v : Value) (w : World) : (Instr.typeAssert (.iface 81 v) 47 78 true).run Try.prog w = .ok (.tuple #[.agg #[.slice none 0 0, .int .i64 0, .int .i64 0, .slice none 0 0, .slice none 0 0], .bool false]) w := by kernel_rfl
theorem as8_6 (v : Value) (w : World) : (Instr.typeAssert (.iface 81 v) 47 79 true).run Try.prog w = .ok (.tuple #[.agg #[.slice none 0 0, .int .i64 0, .int .i64 0, .slice none 0 0, .slice none 0 0], .bool false]) w := by kernel_rfl
theorem as8_7 (v : Value) (w : World) : (Instr.typeAssert (.iface 81 v) 47 80 true).run Try.prog w = .ok (.tuple #[.agg #[.slice none 0 0, .int .i64 0, .int .i64 0, .slice none 0 0, .slice none 0 0], .bool false]) w := by kernel_rfl
theorem as8_8 (v : Value) (w : World) : (Instr.typeAssert (.iface 81 v) 47 81 true).run Try.prog w = .ok (.tuple #[v, .bool true]) w := by kernel_rfl
theorem as0_1 (w : World) : (Instr.typeAssert .nilIface 47 65 true).run Try.prog w = .ok (.tuple #[.agg #[.int .i64 0, .slice none 0 0], .bool false]) w := by kernel_rfl
theorem as0_2 (w : World) : (Instr.typeAssert .nilIface 47 68 true).run Try.prog w = .ok (.tuple #[.agg #[.slice none 0 0, .slice none 0 0, .int .i64 0, .slice none 0 0], .bool false]) w := by kernel_rfl
theorem as0_3 (w : World) : (Instr.typeAssert .nilIface 47 71 true).run Try.prog w = .ok (.tuple #[.agg #[.int .i64 0, .slice none 0 0, .slice none 0 0, .int .i64 0, .slice none 0 0, .slice none 0 0], .bool false]) w := by kernel_rfl
theorem as0_4 (w : World) : (Instr.typeAssert .nilIface 47 77 true).run Try.prog w = .ok (.tuple #[.agg #[.slice none 0 0, .int .i64 0, .int .i64 0, .slice none 0 0, .slice none 0 0], .bool false]) w := by kernel_rfl
theorem as0_5 (w : World) : (Instr.typeAssert .nilIface 47 78 true).run Try.prog w = .ok (.tuple #[.agg #[.slice none 0 0, .int .i64 0, .int .i64 0, .slice none 0 0, .slice none 0 0], .bool false]) w := by kernel_rfl
theorem as0_6 (w : World) : (Instr.typeAssert .nilIface 47 79 true).run Try.prog w = .ok (.tuple #[.agg #[.slice none 0 0, .int .i64 0, .int .i64 0, .slice none 0 0, .slice none 0 0], .bool false]) w := by kernel_rfl
theorem as0_7 (w : World) : (Instr.typeAssert .nilIface 47 80 true).run Try.prog w = .ok (.tuple #[.agg #[.slice none 0 0, .int .i64 0, .int .i64 0, .slice none 0 0, .slice none 0 0], .bool false]) w := by kernel_rfl
theorem as0_8 (w : World) : (Instr.typeAssert .nilIface 47 81 true).run Try.prog w = .ok (.tuple #[.agg #[.slice none 0 0, .int .i64 0, .int .i64 0, .slice none 0 0, .slice none 0 0], .bool false]) w := by kernel_rfl
theorem ne1 (v : Value) (w : World) : (binOp .neq 47 (.iface 65 v) .nilIface).run Try.prog w = .ok (.bool true) w := by kernel_rfl
theorem mr1 (v : Value) (w : World) : (method 214 65 v "loop.example/g00478/impl.right").run Try.prog w = .ok (85, v) w := by kernel_rfl
theorem mf1 (v : Value) (w : World) : (method 214 65 v "loop.example/g00478/impl.frame").run Try.prog w = .ok (84, v) w := by kernel_rfl
theorem ne2 (v : Value) (w : World) : (binOp .neq 47 (.iface 68 v) .nilIface).run Try.prog w = .ok (.bool true) w := by kernel_rfl
theorem mr2 (v : Value) (w : World) : (method 214 68 v "loop.example/g00478/impl.right").run Try.prog w = .ok (89, v) w := by kernel_rfl
theorem mf2 (v : Value) (w : World) : (method 214 68 v "loop.example/g00478/impl.frame").run Try.prog w = .ok (88, v) w := by kernel_rfl
theorem ne3 (v : Value) (w : World) : (binOp .neq 47 (.iface 71 v) .nilIface).run Try.prog w = .ok (.bool true) w := by kernel_rfl
theorem mr3 (v : Value) (w : World) : (method 214 71 v "loop.example/g00478/impl.right").run Try.prog w = .ok (93, v) w := by kernel_rfl
theorem mf3 (v : Value) (w : World) : (method 214 71 v "loop.example/g00478/impl.frame").run Try.prog w = .ok (92, v) w := by kernel_rfl
theorem ne4 (v : Value) (w : World) : (binOp .neq 47 (.iface 77 v) .nilIface).run Try.prog w = .ok (.bool true) w := by kernel_rfl
theorem mr4 (v : Value) (w : World) : (method 214 77 v "loop.example/g00478/impl.right").run Try.prog w = .ok (99, v) w := by kernel_rfl
theorem mf4 (v : Value) (w : World) : (method 214 77 v "loop.example/g00478/impl.frame").run Try.prog w = .ok (98, v) w := by kernel_rfl
theorem ne5 (v : Value) (w : World) : (binOp .neq 47 (.iface 78 v) .nilIface).run Try.prog w = .ok (.bool true) w := by kernel_rfl
theorem mr5 (v : Value) (w : World) : (method 214 78 v "loop.example/g00478/impl.right").run Try.prog w = .ok (101, v) w := by kernel_rfl
theorem mf5 (v : Value) (w : World) : (method 214 78 v "loop.example/g00478/impl.frame").run Try.prog w = .ok (100, v) w := by kernel_rfl
theorem ne6 (v : Value) (w : World) : (binOp .neq 47 (.iface 79 v) .nilIface).run Try.prog w = .ok (.bool true) w := by kernel_rfl
theorem mr6 (v : Value) (w : World) : (method 214 79 v "loop.example/g00478/impl.right").run Try.prog w = .ok (103, v) w := by kernel_rfl
theorem mf6 (v : Value) (w : World) : (method 214 79 v "loop.example/g00478/impl.frame").run Try.prog w = .ok (102, v) w := by kernel_rfl
theorem ne7 (v : Value) (w : World) : (binOp .neq 47 (.iface 80 v) .nilIface).run Try.prog w = .ok (.bool true) w := by kernel_rfl
theorem mr7 (v : Value) (w : World) : (method 214 80 v "loop.example/g00478/impl.right").run Try.prog w = .ok (105, v) w := by kernel_rfl
theorem mf7 (v : Value) (w : World) : (method 214 80 v "loop.example/g00478/impl.frame").run Try.prog w = .ok (104, v) w := by kernel_rfl
theorem ne8 (v : Value) (w : World) : (binOp .neq 47 (.iface 81 v) .nilIface).run Try.prog w = .ok (.bool true) w := by kernel_rfl
theorem mr8 (v : Value) (w : World) : (method 214 81 v "loop.example/g00478/impl.right").run Try.prog w = .ok (107, v) w := by kernel_rfl
theorem mf8 (v : Value) (w : World) : (method 214 81 v "loop.example/g00478/impl.frame").run Try.prog w = .ok (106, v) w := by kernel_rfl
theorem ne0 (w : World) : (binOp .neq 47 .nilIface .nilIface).run Try.prog w = .ok (.bool false) w := by kernel_rfl
end Go.Proofs.Ytfapehmbecgjaaa.FrT
