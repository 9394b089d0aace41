/-
  Closed facts on impl's interface: which word is of which type, and which method a word has.
  The words of impl's frames; which are sealed.
-/
import Derived.Test.YtpenhliaelhnoaaGreatDoorProg
import Derived.WalkKit
import Derived.KernelRfl
import Derived.Test.YtpenhliaelhnoaaGreatDoorFrW2
import Derived.Deep.RegionHeld3
set_option linter.unusedVariables false
namespace Go.Proofs.YtpenhliaelhnoaaGreatDoor.FrT
open Go.RowKit

set_option maxRecDepth 100000 in
theorem as1_1 (v : Value) (w : World) : (Instr.typeAssert (.iface 77 v) 63 77 true).run Tryz.prog w = .ok (.tuple #[v, .bool true]) w := by kernel_rfl
set_option maxRecDepth 100000 in
theorem as1_2 (v : Value) (w : World) : (Instr.typeAssert (.iface 77 v) 63 54 true).run Tryz.prog w = .ok (.tuple #[.agg #[.slice none 0 0, .slice none 0 0, .int .i64 0, .slice none 0 0], .bool false]) w := by kernel_rfl
set_option maxRecDepth 100000 in
theorem as1_3 (v : Value) (w : World) : (Instr.typeAssert (.iface 77 v) 63 57 true).run Tryz.prog w = .ok (.tuple #[.agg #[.int .i64 0, .slice none 0 0, .slice none 0 0, .int .i64 0, .slice none 0 0, .slice none 0 0], .bool false]) w := by kernel_rfl
set_option maxRecDepth 100000 in
theorem as1_4 (v : Value) (w : World) : (Instr.typeAssert (.iface 77 v) 63 82 true).run Tryz.prog w = .ok (.tuple #[.agg #[.slice none 0 0, .int .i64 0, .int .i64 0, .slice none 0 0, .slice none 0 0], .bool false]) w := by kernel_rfl
set_option maxRecDepth 100000 in
theorem as1_5 (v : Value) (w : World) : (Instr.typeAssert (.iface 77 v) 63 83 true).run Tryz.prog w = .ok (.tuple #[.agg #[.slice none 0 0, .int .i64 0, .int .i64 0, .slice none 0 0, .slice none 0 0], .bool false]) w := by kernel_rfl
set_option maxRecDepth 100000 in
theorem as1_6 (v : Value) (w : World) : (Instr.typeAssert (.iface 77 v) 63 84 true).run Tryz.prog w = .ok (.tuple #[.agg #[.slice none 0 0, .int .i64 0, .int .i64 0, .slice none 0 0, .slice none 0 0], .bool false]) w := by kernel_rfl
set_option maxRecDepth 100000 in
theorem as1_7 (v : Value) (w : World) : (Instr.typeAssert (.iface 77 v) 63 85 true).run Tryz.prog w = .ok (.tuple #[.agg #[.slice none 0 0, .int .i64 0, .int .i64 0, .slice none 0 0, .slice none 0 0], .bool false]) w := by kernel_rfl
set_option maxRecDepth 100000 in
theorem as1_8 (v : Value) (w : World) : (Instr.typeAssert (.iface 77 v) 63 86 true).run Tryz.prog w = .ok (.tuple #[.agg #[.slice none 0 0, .int .i64 0, .int .i64 0, .slice none 0 0, .slice none 0 0], .bool false]) w := by kernel_rfl
set_option maxRecDepth 100000 in
theorem as2_1 (v : Value) (w : World) : (Instr.typeAssert (.iface 54 v) 63 77 true).run Tryz.prog w = .ok (.tuple #[.agg #[.int .i64 0, .slice none 0 0], .bool false]) w := by kernel_rfl
set_option maxRecDepth 100000 in
theorem as2_2 (v : Value) (w : World) : (Instr.typeAssert (.iface 54 v) 63 54 true).run Tryz.prog w = .ok (.tuple #[v, .bool true]) w := by kernel_rfl
set_option maxRecDepth 100000 in
theorem as2_3 (v : Value) (w : World) : (Instr.typeAssert (.iface 54 v) 63 57 true).run Tryz.prog w = .ok (.tuple #[.agg #[.int .i64 0, .slice none 0 0, .slice none 0 0, .int .i64 0, .slice none 0 0, .slice none 0 0], .bool false]) w := by kernel_rfl
set_option maxRecDepth 100000 in
theorem as2_4 (v : Value) (w : World) : (Instr.typeAssert (.iface 54 v) 63 82 true).run Tryz.prog w = .ok (.tuple #[.agg #[.slice none 0 0, .int .i64 0, .int .i64 0, .slice none 0 0, .slice none 0 0], .bool false]) w := by kernel_rfl
set_option maxRecDepth 100000 in
theorem as2_5 (v : Value) (w : World) : (Instr.typeAssert (.iface 54 v) 63 83 true).run Tryz.prog w = .ok (.tuple #[.agg #[.slice none 0 0, .int .i64 0, .int .i64 0, .slice none 0 0, .slice none 0 0], .bool false]) w := by kernel_rfl
set_option maxRecDepth 100000 in
theorem as2_6 (v : Value) (w : World) : (Instr.typeAssert (.iface 54 v) 63 84 true).run Tryz.prog w = .ok (.tuple #[.agg #[.slice none 0 0, .int .i64 0, .int .i64 0, .slice none 0 0, .slice none 0 0], .bool false]) w := by kernel_rfl
set_option maxRecDepth 100000 in
theorem as2_7 (v : Value) (w : World) : (Instr.typeAssert (.iface 54 v) 63 85 true).run Tryz.prog w = .ok (.tuple #[.agg #[.slice none 0 0, .int .i64 0, .int .i64 0, .slice none 0 0, .slice none 0 0], .bool false]) w := by kernel_rfl
set_option maxRecDepth 100000 in
theorem as2_8 (v : Value) (w : World) : (Instr.typeAssert (.iface 54 v) 63 86 true).run Tryz.prog w = .ok (.tuple #[.agg #[.slice none 0 0, .int .i64 0, .int .i64 0, .slice none 0 0, .slice none 0 0], .bool false]) w := by kernel_rfl
set_option maxRecDepth 100000 in
theorem as3_1 (v : Value) (w : World) : (Instr.typeAssert (.iface 57 v) 63 77 true).run Tryz.prog w = .ok (.tuple #[.agg #[.int .i64 0, .slice none 0 0], .bool false]) w := by kernel_rfl
set_option maxRecDepth 100000 in
theorem as3_2 (v : Value) (w : World) : (Instr.typeAssert (.iface 57 v) 63 54 true).run Tryz.prog w = .ok (.tuple #[.agg #[.slice none 0 0, .slice none 0 0, .int .i64 0, .slice none 0 0], .bool false]) w := by kernel_rfl
set_option maxRecDepth 100000 in
theorem as3_3 (v : Value) (w : World) : (Instr.typeAssert (.iface 57 v) 63 57 true).run Tryz.prog w = .ok (.tuple #[v, .bool true]) w := by kernel_rfl
set_option maxRecDepth 100000 in
theorem as3_4 (v : Value) (w : World) : (Instr.typeAssert (.iface 57 v) 63 82 true).run Tryz.prog w = .ok (.tuple #[.agg #[.slice none 0 0, .int .i64 0, .int .i64 0, .slice none 0 0, .slice none 0 0], .bool false]) w := by kernel_rfl
set_option maxRecDepth 100000 in
theorem as3_5 (v : Value) (w : World) : (Instr.typeAssert (.iface 57 v) 63 83 true).run Tryz.prog w = .ok (.tuple #[.agg #[.slice none 0 0, .int .i64 0, .int .i64 0, .slice none 0 0, .slice none 0 0], .bool false]) w := by kernel_rfl
set_option maxRecDepth 100000 in
theorem as3_6 (v : Value) (w : World) : (Instr.typeAssert (.iface 57 v) 63 84 true).run Tryz.prog w = .ok (.tuple #[.agg #[.slice none 0 0, .int .i64 0, .int .i64 0, .slice none 0 0, .slice none 0 0], .bool false]) w := by kernel_rfl
set_option maxRecDepth 100000 in
theorem as3_7 (v : Value) (w : World) : (Instr.typeAssert (.iface 57 v) 63 85 true).run Tryz.prog w = .ok (.tuple #[.agg #[.slice none 0 0, .int .i64 0, .int .i64 0, .slice none 0 0, .slice none 0 0], .bool false]) w := by kernel_rfl
set_option maxRecDepth 100000 in
theorem as3_8 (v : Value) (w : World) : (Instr.typeAssert (.iface 57 v) 63 86 true).run Tryz.prog w = .ok (.tuple #[.agg #[.slice none 0 0, .int .i64 0, .int .i64 0, .slice none 0 0, .slice none 0 0], .bool false]) w := by kernel_rfl
set_option maxRecDepth 100000 in
theorem as4_1 (v : Value) (w : World) : (Instr.typeAssert (.iface 82 v) 63 77 true).run Tryz.prog w = .ok (.tuple #[.agg #[.int .i64 0, .slice none 0 0], .bool false]) w := by kernel_rfl
set_option maxRecDepth 100000 in
theorem as4_2 (v : Value) (w : World) : (Instr.typeAssert (.iface 82 v) 63 54 true).run Tryz.prog w = .ok (.tuple #[.agg #[.slice none 0 0, .slice none 0 0, .int .i64 0, .slice none 0 0], .bool false]) w := by kernel_rfl
set_option maxRecDepth 100000 in
theorem as4_3 (v : Value) (w : World) : (Instr.typeAssert (.iface 82 v) 63 57 true).run Tryz.prog w = .ok (.tuple #[.agg #[.int .i64 0, .slice none 0 0, .slice none 0 0, .int .i64 0, .slice none 0 0, .slice none 0 0], .bool false]) w := by kernel_rfl
set_option maxRecDepth 100000 in
theorem as4_4 (v : Value) (w : World) : (Instr.typeAssert (.iface 82 v) 63 82 true).run Tryz.prog w = .ok (.tuple #[v, .bool true]) w := by kernel_rfl
set_option maxRecDepth 100000 in
theorem as4_5 (v : Value) (w : World) : (Instr.typeAssert (.iface 82 v) 63 83 true).run Tryz.prog w = .ok (.tuple #[.agg #[.slice none 0 0, .int .i64 0, .int .i64 0, .slice none 0 0, .slice none 0 0], .bool false]) w := by kernel_rfl
set_option maxRecDepth 100000 in
theorem as4_6 (v : Value) (w : World) : (Instr.typeAssert (.iface 82 v) 63 84 true).run Tryz.prog w = .ok (.tuple #[.agg #[.slice none 0 0, .int .i64 0, .int .i64 0, .slice none 0 0, .slice none 0 0], .bool false]) w := by kernel_rfl
set_option maxRecDepth 100000 in
theorem as4_7 (v : Value) (w : World) : (Instr.typeAssert (.iface 82 v) 63 85 true).run Tryz.prog w = .ok (.tuple #[.agg #[.slice none 0 0, .int .i64 0, .int .i64 0, .slice none 0 0, .slice none 0 0], .bool false]) w := by kernel_rfl
set_option maxRecDepth 100000 in
theorem as4_8 (v : Value) (w : World) : (Instr.typeAssert (.iface 82 v) 63 86 true).run Tryz.prog w = .ok (.tuple #[.agg #[.slice none 0 0, .int .i64 0, .int .i64 0, .slice none 0 0, .slice none 0 0], .bool false]) w := by kernel_rfl
set_option maxRecDepth 100000 in
theorem as5_1 (v : Value) (w : World) : (Instr.typeAssert (.iface 83 v) 63 77 true).run Tryz.prog w = .ok (.tuple #[.agg #[.int .i64 0, .slice none 0 0], .bool false]) w := by kernel_rfl
set_option maxRecDepth 100000 in
theorem as5_2 (v : Value) (w : World) : (Instr.typeAssert (.iface 83 v) 63 54 true).run Tryz.prog w = .ok (.tuple #[.agg #[.slice none 0 0, .slice none 0 0, .int .i64 0, .slice none 0 0], .bool false]) w := by kernel_rfl
set_option maxRecDepth 100000 in
theorem as5_3 (v : Value) (w : World) : (Instr.typeAssert (.iface 83 v) 63 57 true).run Tryz.prog w = .ok (.tuple #[.agg #[.int .i64 0, .slice none 0 0, .slice none 0 0, .int .i64 0, .slice none 0 0, .slice none 0 0], .bool false]) w := by kernel_rfl
set_option maxRecDepth 100000 in
theorem as5_4 (v : Value) (w : World) : (Instr.typeAssert (.iface 83 v) 63 82 true).run Tryz.prog w = .ok (.tuple #[.agg #[.slice none 0 0, .int .i64 0, .int .i64 0, .slice none 0 0, .slice none 0 0], .bool false]) w := by kernel_rfl
set_option maxRecDepth 100000 in
theorem as5_5 (v : Value) (w : World) : (Instr.typeAssert (.iface 83 v) 63 83 true).run Tryz.prog w = .ok (.tuple #[v, .bool true]) w := by kernel_rfl
set_option maxRecDepth 100000 in
theorem as5_6 (v : Value) (w : World) : (Instr.typeAssert (.iface 83 v) 63 84 true).run Tryz.prog w = .ok (.tuple #[.agg #[.slice none 0 0, .int .i64 0, .int .i64 0, .slice none 0 0, .slice none 0 0], .bool false]) w := by kernel_rfl
set_option maxRecDepth 100000 in
theorem as5_7 (v : Value) (w : World) : (Instr.typeAssert (.iface 83 v) 63 85 true).run Tryz.prog w = .ok (.tuple #[.agg #[.slice none 0 0, .int .i64 0, .int .i64 0, .slice none 0 0, .slice none 0 0], .bool false]) w := by kernel_rfl
set_option maxRecDepth 100000 in
theorem as5_8 (v : Value) (w : World) : (Instr.typeAssert (.iface 83 v) 63 86 true).run Tryz.prog w = .ok (.tuple #[.agg #[.slice none 0 0, .int .i64 0, .int .i64 0, .slice none 0 0, .slice none 0 0], .bool false]) w := by kernel_rfl
set_option maxRecDepth 100000 in
theorem as6_1 (v : Value) (w : World) : (Instr.typeAssert (.iface 84 v) 63 77 true).run Tryz.prog w = .ok (.tuple #[.agg #[.int .i64 0, .slice none 0 0], .bool false]) w := by kernel_rfl
set_option maxRecDepth 100000 in
theorem as6_2 (v : Value) (w : World) : (Instr.typeAssert (.iface 84 v) 63 54 true).run Tryz.prog w = .ok (.tuple #[.agg #[.slice none 0 0, .slice none 0 0, .int .i64 0, .slice none 0 0], .bool false]) w := by kernel_rfl
set_option maxRecDepth 100000 in
theorem as6_3 (v : Value) (w : World) : (Instr.typeAssert (.iface 84 v) 63 57 true).run Tryz.prog w = .ok (.tuple #[.agg #[.int .i64 0, .slice none 0 0, .slice none 0 0, .int .i64 0, .slice none 0 0, .slice none 0 0], .bool false]) w := by kernel_rfl
set_option maxRecDepth 100000 in
theorem as6_4 (v : Value) (w : World) : (Instr.typeAssert (.iface 84 v) 63 82 true).run Tryz.prog w = .ok (.tuple #[.agg #[.slice none 0 0, .int .i64 0, .int .i64 0, .slice none 0 0, .slice none 0 0], .bool false]) w := by kernel_rfl
set_option maxRecDepth 100000 in
theorem as6_5 (v : Value) (w : World) : (Instr.typeAssert (.iface 84 v) 63 83 true).run Tryz.prog w = .ok (.tuple #[.agg #[.slice none 0 0, .int .i64 0, .int .i64 0, .slice none 0 0, .slice none 0 0], .bool false]) w := by kernel_rfl
set_option maxRecDepth 100000 in
theorem as6_6 (v : Value) (w : World) : (Instr.typeAssert (.iface 84 v) 63 84 true).run Tryz.prog w = .ok (.tuple #[v, .bool true]) w := by kernel_rfl
set_option maxRecDepth 100000 in
theorem as6_7 (v : Value) (w : World) : (Instr.typeAssert (.iface 84 v) 63 85 true).run Tryz.prog w = .ok (.tuple #[.agg #[.slice none 0 0, .int .i64 0, .int .i64 0, .slice none 0 0, .slice none 0 0], .bool false]) w := by kernel_rfl
set_option maxRecDepth 100000 in
theorem as6_8 (v : Value) (w : World) : (Instr.typeAssert (.iface 84 v) 63 86 true).run Tryz.prog w = .ok (.tuple #[.agg #[.slice none 0 0, .int .i64 0, .int .i64 0, .slice none 0 0, .slice none 0 0], .bool false]) w := by kernel_rfl
set_option maxRecDepth 100000 in
theorem as7_1 (v : Value) (w : World) : (Instr.typeAssert (.iface 85 v) 63 77 true).run Tryz.prog w = .ok (.tuple #[.agg #[.int .i64 0, .slice none 0 0], .bool false]) w := by kernel_rfl
set_option maxRecDepth 100000 in
theorem as7_2 (v : Value) (w : World) : (Instr.typeAssert (.iface 85 v) 63 54 true).run Tryz.prog w = .ok (.tuple #[.agg #[.slice none 0 0, .slice none 0 0, .int .i64 0, .slice none 0 0], .bool false]) w := by kernel_rfl
set_option maxRecDepth 100000 in
theorem as7_3 (v : Value) (w : World) : (Instr.typeAssert (.iface 85 v) 63 57 true).run Tryz.prog w = .ok (.tuple #[.agg #[.int .i64 0, .slice none 0 0, .slice none 0 0, .int .i64 0, .slice none 0 0, .slice none 0 0], .bool false]) w := by kernel_rfl
set_option maxRecDepth 100000 in
theorem as7_4 (v : Value) (w : World) : (Instr.typeAssert (.iface 85 v) 63 82 true).run Tryz.prog w = .ok (.tuple #[.agg #[.slice none 0 0, .int .i64 0, .int .i64 0, .slice none 0 0, .slice none 0 0], .bool false]) w := by kernel_rfl
set_option maxRecDepth 100000 in
theorem as7_5 (v : Value) (w : World) : (Instr.typeAssert (.iface 85 v) 63 83 true).run Tryz.prog w = .ok (.tuple #[.agg #[.slice none 0 0, .int .i64 0, .int .i64 0, .slice none 0 0, .slice none 0 0], .bool false]) w := by kernel_rfl
set_option maxRecDepth 100000 in
theorem as7_6 (v : Value) (w : World) : (Instr.typeAssert (.iface 85 v) 63 84 true).run Tryz.prog w = .ok (.tuple #[.agg #[.slice none 0 0, .int .i64 0, .int .i64 0, .slice none 0 0, .slice none 0 0], .bool false]) w := by kernel_rfl
set_option maxRecDepth 100000 in
theorem as7_7 (v : Value) (w : World) : (Instr.typeAssert (.iface 85 v) 63 85 true).run Tryz.prog w = .ok (.tuple #[v, .bool true]) w := by kernel_rfl
set_option maxRecDepth 100000 in
theorem as7_8 (v : Value) (w : World) : (Instr.typeAssert (.iface 85 v) 63 86 true).run Tryz.prog w = .ok (.tuple #[.agg #[.slice none 0 0, .int .i64 0, .int .i64 0, .slice none 0 0, .slice none 0 0], .bool false]) w := by kernel_rfl
set_option maxRecDepth 100000 in
theorem as8_1 (v : Value) (w : World) : (Instr.typeAssert (.iface 86 v) 63 77 true).run Tryz.prog w = .ok (.tuple #[.agg #[.int .i64 0, .slice none 0 0], .bool false]) w := by kernel_rfl
set_option maxRecDepth 100000 in
theorem as8_2 (v : Value) (w : World) : (Instr.typeAssert (.iface 86 v) 63 54 true).run Tryz.prog w = .ok (.tuple #[.agg #[.slice none 0 0, .slice none 0 0, .int .i64 0, .slice none 0 0], .bool false]) w := by kernel_rfl
set_option maxRecDepth 100000 in
theorem as8_3 (v : Value) (w : World) : (Instr.typeAssert (.iface 86 v) 63 57 true).run Tryz.prog w = .ok (.tuple #[.agg #[.int .i64 0, .slice none 0 0, .slice none 0 0, .int .i64 0, .slice none 0 0, .slice none 0 0], .bool false]) w := by kernel_rfl
set_option maxRecDepth 100000 in
theorem as8_4 (v : Value) (w : World) : (Instr.typeAssert (.iface 86 v) 63 82 true).run Tryz.prog w = .ok (.tuple #[.agg #[.slice none 0 0, .int .i64 0, .int .i64 0, .slice none 0 0, .slice none 0 0], .bool false]) w := by kernel_rfl
set_option maxRecDepth 100000 in
theorem as8_5 (v : Value) (w : World) : (Instr.typeAssert (.iface 86 v) 63 83 true).run Tryz.prog w = .ok (.tuple #[.agg #[.slice none 0 0, .int .i64 0, .int .i64 0, .slice none 0 0, .slice none 0 0], .bool false]) w := by kernel_rfl
set_option maxRecDepth 100000 in
theorem as8_6 (v : Value) (w : World) : (Instr.typeAssert (.iface 86 v) 63 84 true).run Tryz.prog w = .ok (.tuple #[.agg #[.slice none 0 0, .int .i64 0, .int .i64 0, .slice none 0 0, .slice none 0 0], .bool false]) w := by kernel_rfl
set_option maxRecDepth 100000 in
theorem as8_7 (v : Value) (w : World) : (Instr.typeAssert (.iface 86 v) 63 85 true).run Tryz.prog w = .ok (.tuple #[.agg #[.slice none 0 0, .int .i64 0, .int .i64 0, .slice none 0 0, .slice none 0 0], .bool false]) w := by kernel_rfl
set_option maxRecDepth 100000 in
theorem as8_8 (v : Value) (w : World) : (Instr.typeAssert (.iface 86 v) 63 86 true).run Tryz.prog w = .ok (.tuple #[v, .bool true]) w := by kernel_rfl
set_option maxRecDepth 100000 in
theorem as0_1 (w : World) : (Instr.typeAssert .nilIface 63 77 true).run Tryz.prog w = .ok (.tuple #[.agg #[.int .i64 0, .slice none 0 0], .bool false]) w := by kernel_rfl
set_option maxRecDepth 100000 in
theorem as0_2 (w : World) : (Instr.typeAssert .nilIface 63 54 true).run Tryz.prog w = .ok (.tuple #[.agg #[.slice none 0 0, .slice none 0 0, .int .i64 0, .slice none 0 0], .bool false]) w := by kernel_rfl
set_option maxRecDepth 100000 in
theorem as0_3 (w : World) : (Instr.typeAssert .nilIface 63 57 true).run Tryz.prog w = .ok (.tuple #[.agg #[.int .i64 0, .slice none 0 0, .slice none 0 0, .int .i64 0, .slice none 0 0, .slice none 0 0], .bool false]) w := by kernel_rfl
set_option maxRecDepth 100000 in
theorem as0_4 (w : World) : (Instr.typeAssert .nilIface 63 82 true).run Tryz.prog w = .ok (.tuple #[.agg #[.slice none 0 0, .int .i64 0, .int .i64 0, .slice none 0 0, .slice none 0 0], .bool false]) w := by kernel_rfl
set_option maxRecDepth 100000 in
theorem as0_5 (w : World) : (Instr.typeAssert .nilIface 63 83 true).run Tryz.prog w = .ok (.tuple #[.agg #[.slice none 0 0, .int .i64 0, .int .i64 0, .slice none 0 0, .slice none 0 0], .bool false]) w := by kernel_rfl
set_option maxRecDepth 100000 in
theorem as0_6 (w : World) : (Instr.typeAssert .nilIface 63 84 true).run Tryz.prog w = .ok (.tuple #[.agg #[.slice none 0 0, .int .i64 0, .int .i64 0, .slice none 0 0, .slice none 0 0], .bool false]) w := by kernel_rfl
set_option maxRecDepth 100000 in
theorem as0_7 (w : World) : (Instr.typeAssert .nilIface 63 85 true).run Tryz.prog w = .ok (.tuple #[.agg #[.slice none 0 0, .int .i64 0, .int .i64 0, .slice none 0 0, .slice none 0 0], .bool false]) w := by kernel_rfl
set_option maxRecDepth 100000 in
theorem as0_8 (w : World) : (Instr.typeAssert .nilIface 63 86 true).run Tryz.prog w = .ok (.tuple #[.agg #[.slice none 0 0, .int .i64 0, .int .i64 0, .slice none 0 0, .slice none 0 0], .bool false]) w := by kernel_rfl
set_option maxRecDepth 100000 in
theorem ne1 (v : Value) (w : World) : (binOp .neq 63 (.iface 77 v) .nilIface).run Tryz.prog w = .ok (.bool true) w := by kernel_rfl
set_option maxRecDepth 100000 in
theorem mr1 (v : Value) (w : World) : (method 240 77 v "loop.example/g00478/impl.right").run Tryz.prog w = .ok (133, v) w := by kernel_rfl
set_option maxRecDepth 100000 in
theorem mf1 (v : Value) (w : World) : (method 240 77 v "loop.example/g00478/impl.frame").run Tryz.prog w = .ok (132, v) w := by kernel_rfl
set_option maxRecDepth 100000 in
theorem ne2 (v : Value) (w : World) : (binOp .neq 63 (.iface 54 v) .nilIface).run Tryz.prog w = .ok (.bool true) w := by kernel_rfl
set_option maxRecDepth 100000 in
theorem mr2 (v : Value) (w : World) : (method 240 54 v "loop.example/g00478/impl.right").run Tryz.prog w = .ok (69, v) w := by kernel_rfl
set_option maxRecDepth 100000 in
theorem mf2 (v : Value) (w : World) : (method 240 54 v "loop.example/g00478/impl.frame").run Tryz.prog w = .ok (52, v) w := by kernel_rfl
set_option maxRecDepth 100000 in
theorem ne3 (v : Value) (w : World) : (binOp .neq 63 (.iface 57 v) .nilIface).run Tryz.prog w = .ok (.bool true) w := by kernel_rfl
set_option maxRecDepth 100000 in
theorem mr3 (v : Value) (w : World) : (method 240 57 v "loop.example/g00478/impl.right").run Tryz.prog w = .ok (131, v) w := by kernel_rfl
set_option maxRecDepth 100000 in
theorem mf3 (v : Value) (w : World) : (method 240 57 v "loop.example/g00478/impl.frame").run Tryz.prog w = .ok (33, v) w := by kernel_rfl
set_option maxRecDepth 100000 in
theorem ne4 (v : Value) (w : World) : (binOp .neq 63 (.iface 82 v) .nilIface).run Tryz.prog w = .ok (.bool true) w := by kernel_rfl
set_option maxRecDepth 100000 in
theorem mr4 (v : Value) (w : World) : (method 240 82 v "loop.example/g00478/impl.right").run Tryz.prog w = .ok (139, v) w := by kernel_rfl
set_option maxRecDepth 100000 in
theorem mf4 (v : Value) (w : World) : (method 240 82 v "loop.example/g00478/impl.frame").run Tryz.prog w = .ok (138, v) w := by kernel_rfl
set_option maxRecDepth 100000 in
theorem ne5 (v : Value) (w : World) : (binOp .neq 63 (.iface 83 v) .nilIface).run Tryz.prog w = .ok (.bool true) w := by kernel_rfl
set_option maxRecDepth 100000 in
theorem mr5 (v : Value) (w : World) : (method 240 83 v "loop.example/g00478/impl.right").run Tryz.prog w = .ok (141, v) w := by kernel_rfl
set_option maxRecDepth 100000 in
theorem mf5 (v : Value) (w : World) : (method 240 83 v "loop.example/g00478/impl.frame").run Tryz.prog w = .ok (140, v) w := by kernel_rfl
set_option maxRecDepth 100000 in
theorem ne6 (v : Value) (w : World) : (binOp .neq 63 (.iface 84 v) .nilIface).run Tryz.prog w = .ok (.bool true) w := by kernel_rfl
set_option maxRecDepth 100000 in
theorem mr6 (v : Value) (w : World) : (method 240 84 v "loop.example/g00478/impl.right").run Tryz.prog w = .ok (143, v) w := by kernel_rfl
set_option maxRecDepth 100000 in
theorem mf6 (v : Value) (w : World) : (method 240 84 v "loop.example/g00478/impl.frame").run Tryz.prog w = .ok (142, v) w := by kernel_rfl
set_option maxRecDepth 100000 in
theorem ne7 (v : Value) (w : World) : (binOp .neq 63 (.iface 85 v) .nilIface).run Tryz.prog w = .ok (.bool true) w := by kernel_rfl
set_option maxRecDepth 100000 in
theorem mr7 (v : Value) (w : World) : (method 240 85 v "loop.example/g00478/impl.right").run Tryz.prog w = .ok (145, v) w := by kernel_rfl
set_option maxRecDepth 100000 in
theorem mf7 (v : Value) (w : World) : (method 240 85 v "loop.example/g00478/impl.frame").run Tryz.prog w = .ok (144, v) w := by kernel_rfl
set_option maxRecDepth 100000 in
theorem ne8 (v : Value) (w : World) : (binOp .neq 63 (.iface 86 v) .nilIface).run Tryz.prog w = .ok (.bool true) w := by kernel_rfl
set_option maxRecDepth 100000 in
theorem mr8 (v : Value) (w : World) : (method 240 86 v "loop.example/g00478/impl.right").run Tryz.prog w = .ok (147, v) w := by kernel_rfl
set_option maxRecDepth 100000 in
theorem mf8 (v : Value) (w : World) : (method 240 86 v "loop.example/g00478/impl.frame").run Tryz.prog w = .ok (146, v) w := by kernel_rfl
set_option maxRecDepth 100000 in
theorem ne0 (w : World) : (binOp .neq 63 .nilIface .nilIface).run Tryz.prog w = .ok (.bool false) w := by kernel_rfl
end Go.Proofs.YtpenhliaelhnoaaGreatDoor.FrT

namespace Go.Proofs.YtpenhliaelhnoaaGreatDoor.FrW3
open Go.RowKit Go.Proofs.YtpenhliaelhnoaaGreatDoor.Mem Go.Proofs.YtpenhliaelhnoaaGreatDoor.Blk Go.Proofs.YtpenhliaelhnoaaGreatDoor.Words Go.Proofs.YtpenhliaelhnoaaGreatDoor.Zone Go.Proofs.YtpenhliaelhnoaaGreatDoor.Res Go.Proofs.YtpenhliaelhnoaaGreatDoor.FrZ Go.Proofs.YtpenhliaelhnoaaGreatDoor.FrP Go.Proofs.YtpenhliaelhnoaaGreatDoor.FrW Go.Proofs.YtpenhliaelhnoaaGreatDoor.FrW2 Go.Proofs.YtpenhliaelhnoaaGreatDoor.FrT

set_option maxRecDepth 100000 in
set_option maxHeartbeats 1600000 in
theorem wordOf1 (id : Int) (cn sn : Sl) (tick : Int) (cookie proof : Sl) (epoch seq : Int) (body tag : Sl) (w : World) :
    Calls Tryz.prog 42 #[.agg #[.int .i64 1, .int .i64 id, .slice cn.a cn.n cn.c, .slice sn.a sn.n sn.c, .int .i64 tick, .slice cookie.a cookie.n cookie.c, .slice proof.a proof.n proof.c, .int .i64 epoch, .int .i64 seq, .slice body.a body.n body.c, .slice tag.a tag.n tag.c]] w fun e w' => e = .returned (.iface 77 (.agg #[.int .i64 id, .slice cn.a cn.n cn.c])) ∧ Below w.heap.size w w' := by
  obtain ⟨x0, hx0⟩ : ∃ x0, w.alloc (.cells #[.int .i64 1, .int .i64 id, .slice cn.a cn.n cn.c, .slice sn.a sn.n sn.c, .int .i64 tick, .slice cookie.a cookie.n cookie.c, .slice proof.a proof.n proof.c, .int .i64 epoch, .int .i64 seq, .slice body.a body.n body.c, .slice tag.a tag.n tag.c] 25) = x0 := ⟨_, rfl⟩
  have HW0 : Hid (w.alloc (.cells #[.int .i64 1, .int .i64 id, .slice cn.a cn.n cn.c, .slice sn.a sn.n sn.c, .int .i64 tick, .slice cookie.a cookie.n cookie.c, .slice proof.a proof.n proof.c, .int .i64 epoch, .int .i64 seq, .slice body.a body.n body.c, .slice tag.a tag.n tag.c] 25) = x0) := hx0
  have B0 : Hid (Below w.heap.size w x0) := by rw [← hx0]; exact (Below.refl _ _).alloc (Nat.le_refl _) _
  have K0 : Hid (Blk x0 w.heap.size 25 [.int .i64 1, .int .i64 id, .slice cn.a cn.n cn.c, .slice sn.a sn.n sn.c, .int .i64 tick, .slice cookie.a cookie.n cookie.c, .slice proof.a proof.n proof.c, .int .i64 epoch, .int .i64 seq, .slice body.a body.n body.c, .slice tag.a tag.n tag.c]) := by rw [← hx0]; exact Blk.new w _ _
  clear hx0
  go_enter Tryz.func42, Tryz.ntmps42
  go_wp2
  rw [HW0.out]
  go_ret
  exact ⟨by simp, B0.out⟩

set_option maxRecDepth 100000 in
set_option maxHeartbeats 1600000 in
theorem wordOf2 (id : Int) (cn sn : Sl) (tick : Int) (cookie proof : Sl) (epoch seq : Int) (body tag : Sl) (w : World) :
    Calls Tryz.prog 42 #[.agg #[.int .i64 2, .int .i64 id, .slice cn.a cn.n cn.c, .slice sn.a sn.n sn.c, .int .i64 tick, .slice cookie.a cookie.n cookie.c, .slice proof.a proof.n proof.c, .int .i64 epoch, .int .i64 seq, .slice body.a body.n body.c, .slice tag.a tag.n tag.c]] w fun e w' => e = .returned (.iface 54 (.agg #[.slice cn.a cn.n cn.c, .slice sn.a sn.n sn.c, .int .i64 tick, .slice cookie.a cookie.n cookie.c])) ∧ Below w.heap.size w w' := by
  obtain ⟨x0, hx0⟩ : ∃ x0, w.alloc (.cells #[.int .i64 2, .int .i64 id, .slice cn.a cn.n cn.c, .slice sn.a sn.n sn.c, .int .i64 tick, .slice cookie.a cookie.n cookie.c, .slice proof.a proof.n proof.c, .int .i64 epoch, .int .i64 seq, .slice body.a body.n body.c, .slice tag.a tag.n tag.c] 25) = x0 := ⟨_, rfl⟩
  have HW0 : Hid (w.alloc (.cells #[.int .i64 2, .int .i64 id, .slice cn.a cn.n cn.c, .slice sn.a sn.n sn.c, .int .i64 tick, .slice cookie.a cookie.n cookie.c, .slice proof.a proof.n proof.c, .int .i64 epoch, .int .i64 seq, .slice body.a body.n body.c, .slice tag.a tag.n tag.c] 25) = x0) := hx0
  have B0 : Hid (Below w.heap.size w x0) := by rw [← hx0]; exact (Below.refl _ _).alloc (Nat.le_refl _) _
  have K0 : Hid (Blk x0 w.heap.size 25 [.int .i64 2, .int .i64 id, .slice cn.a cn.n cn.c, .slice sn.a sn.n sn.c, .int .i64 tick, .slice cookie.a cookie.n cookie.c, .slice proof.a proof.n proof.c, .int .i64 epoch, .int .i64 seq, .slice body.a body.n body.c, .slice tag.a tag.n tag.c]) := by rw [← hx0]; exact Blk.new w _ _
  clear hx0
  go_enter Tryz.func42, Tryz.ntmps42
  go_wp2_with fail
  rw [HW0.out]
  refine (cookieOf 2 id cn sn tick cookie proof epoch seq body tag x0).mono ?_
  rintro e x1 ⟨rfl, b1⟩
  have B1 : Hid (Below w.heap.size w x1) := B0.out.trans (b1.mono B0.out.size)
  clear b1
  go_wp2
  go_ret
  exact ⟨by simp, B1.out⟩

set_option maxRecDepth 100000 in
set_option maxHeartbeats 1600000 in
theorem wordOf3 (id : Int) (cn sn : Sl) (tick : Int) (cookie proof : Sl) (epoch seq : Int) (body tag : Sl) (w : World) :
    Calls Tryz.prog 42 #[.agg #[.int .i64 3, .int .i64 id, .slice cn.a cn.n cn.c, .slice sn.a sn.n sn.c, .int .i64 tick, .slice cookie.a cookie.n cookie.c, .slice proof.a proof.n proof.c, .int .i64 epoch, .int .i64 seq, .slice body.a body.n body.c, .slice tag.a tag.n tag.c]] w fun e w' => e = .returned (.iface 57 (.agg #[.int .i64 id, .slice cn.a cn.n cn.c, .slice sn.a sn.n sn.c, .int .i64 tick, .slice cookie.a cookie.n cookie.c, .slice proof.a proof.n proof.c])) ∧ Below w.heap.size w w' := by
  obtain ⟨x0, hx0⟩ : ∃ x0, w.alloc (.cells #[.int .i64 3, .int .i64 id, .slice cn.a cn.n cn.c, .slice sn.a sn.n sn.c, .int .i64 tick, .slice cookie.a cookie.n cookie.c, .slice proof.a proof.n proof.c, .int .i64 epoch, .int .i64 seq, .slice body.a body.n body.c, .slice tag.a tag.n tag.c] 25) = x0 := ⟨_, rfl⟩
  have HW0 : Hid (w.alloc (.cells #[.int .i64 3, .int .i64 id, .slice cn.a cn.n cn.c, .slice sn.a sn.n sn.c, .int .i64 tick, .slice cookie.a cookie.n cookie.c, .slice proof.a proof.n proof.c, .int .i64 epoch, .int .i64 seq, .slice body.a body.n body.c, .slice tag.a tag.n tag.c] 25) = x0) := hx0
  have B0 : Hid (Below w.heap.size w x0) := by rw [← hx0]; exact (Below.refl _ _).alloc (Nat.le_refl _) _
  have K0 : Hid (Blk x0 w.heap.size 25 [.int .i64 3, .int .i64 id, .slice cn.a cn.n cn.c, .slice sn.a sn.n sn.c, .int .i64 tick, .slice cookie.a cookie.n cookie.c, .slice proof.a proof.n proof.c, .int .i64 epoch, .int .i64 seq, .slice body.a body.n body.c, .slice tag.a tag.n tag.c]) := by rw [← hx0]; exact Blk.new w _ _
  clear hx0
  go_enter Tryz.func42, Tryz.ntmps42
  go_upto_region 7 with fail
  rw [HW0.out]
  generalize hga : w.heap.size = ga at K0 ⊢
  have c0 := K0.out.cell 0 rfl
  have c1 := K0.out.cell 1 rfl
  have c2 := K0.out.cell 2 rfl
  have c3 := K0.out.cell 3 rfl
  have c4 := K0.out.cell 4 rfl
  have c5 := K0.out.cell 5 rfl
  have c6 := K0.out.cell 6 rfl
  have c7 := K0.out.cell 7 rfl
  have c8 := K0.out.cell 8 rfl
  have c9 := K0.out.cell 9 rfl
  have c10 := K0.out.cell 10 rfl
  go_region_held3 (fun w' => w'.cell? ⟨ga, 0, none⟩ = some (.int .i64 3) ∧ w'.cell? ⟨ga, 1, none⟩ = some (.int .i64 id) ∧ w'.cell? ⟨ga, 2, none⟩ = some (.slice cn.a cn.n cn.c) ∧ w'.cell? ⟨ga, 3, none⟩ = some (.slice sn.a sn.n sn.c) ∧ w'.cell? ⟨ga, 4, none⟩ = some (.int .i64 tick) ∧ w'.cell? ⟨ga, 5, none⟩ = some (.slice cookie.a cookie.n cookie.c) ∧ w'.cell? ⟨ga, 6, none⟩ = some (.slice proof.a proof.n proof.c) ∧ w'.cell? ⟨ga, 7, none⟩ = some (.int .i64 epoch) ∧ w'.cell? ⟨ga, 8, none⟩ = some (.int .i64 seq) ∧ w'.cell? ⟨ga, 9, none⟩ = some (.slice body.a body.n body.c) ∧ w'.cell? ⟨ga, 10, none⟩ = some (.slice tag.a tag.n tag.c)) (first | exact ⟨p0, p1, p2, p3, p4, p5, p6, p7, p8, p9, p10⟩ | exact ⟨c0, c1, c2, c3, c4, c5, c6, c7, c8, c9, c10⟩ | go_keep)
    ((go_at_call 62; refine (cookieOf 3 id cn sn tick cookie proof epoch seq body tag x0.drew).mono ?_; rintro e x1 ⟨rfl, b1⟩; have B1 : Hid (Below w.heap.size w x1) := (B0.out.drew.trans (b1.mono B0.out.size)); have p0 := (Blk.later (w := x0.drew) K0.out b1).cell 0 rfl; have p1 := (Blk.later (w := x0.drew) K0.out b1).cell 1 rfl; have p2 := (Blk.later (w := x0.drew) K0.out b1).cell 2 rfl; have p3 := (Blk.later (w := x0.drew) K0.out b1).cell 3 rfl; have p4 := (Blk.later (w := x0.drew) K0.out b1).cell 4 rfl; have p5 := (Blk.later (w := x0.drew) K0.out b1).cell 5 rfl; have p6 := (Blk.later (w := x0.drew) K0.out b1).cell 6 rfl; have p7 := (Blk.later (w := x0.drew) K0.out b1).cell 7 rfl; have p8 := (Blk.later (w := x0.drew) K0.out b1).cell 8 rfl; have p9 := (Blk.later (w := x0.drew) K0.out b1).cell 9 rfl; have p10 := (Blk.later (w := x0.drew) K0.out b1).cell 10 rfl))
  go_wp2
  go_ret
  exact ⟨by simp, hga ▸ B1.out⟩

set_option maxRecDepth 100000 in
set_option maxHeartbeats 1600000 in
theorem wordOf4 (id : Int) (cn sn : Sl) (tick : Int) (cookie proof : Sl) (epoch seq : Int) (body tag : Sl) (w : World) :
    Calls Tryz.prog 42 #[.agg #[.int .i64 4, .int .i64 id, .slice cn.a cn.n cn.c, .slice sn.a sn.n sn.c, .int .i64 tick, .slice cookie.a cookie.n cookie.c, .slice proof.a proof.n proof.c, .int .i64 epoch, .int .i64 seq, .slice body.a body.n body.c, .slice tag.a tag.n tag.c]] w fun e w' => e = .returned (.iface 82 (.agg #[.slice sn.a sn.n sn.c, .int .i64 epoch, .int .i64 seq, .slice tag.a tag.n tag.c, .slice body.a body.n body.c])) ∧ Below w.heap.size w w' := by
  obtain ⟨x0, hx0⟩ : ∃ x0, w.alloc (.cells #[.int .i64 4, .int .i64 id, .slice cn.a cn.n cn.c, .slice sn.a sn.n sn.c, .int .i64 tick, .slice cookie.a cookie.n cookie.c, .slice proof.a proof.n proof.c, .int .i64 epoch, .int .i64 seq, .slice body.a body.n body.c, .slice tag.a tag.n tag.c] 25) = x0 := ⟨_, rfl⟩
  have HW0 : Hid (w.alloc (.cells #[.int .i64 4, .int .i64 id, .slice cn.a cn.n cn.c, .slice sn.a sn.n sn.c, .int .i64 tick, .slice cookie.a cookie.n cookie.c, .slice proof.a proof.n proof.c, .int .i64 epoch, .int .i64 seq, .slice body.a body.n body.c, .slice tag.a tag.n tag.c] 25) = x0) := hx0
  have B0 : Hid (Below w.heap.size w x0) := by rw [← hx0]; exact (Below.refl _ _).alloc (Nat.le_refl _) _
  have K0 : Hid (Blk x0 w.heap.size 25 [.int .i64 4, .int .i64 id, .slice cn.a cn.n cn.c, .slice sn.a sn.n sn.c, .int .i64 tick, .slice cookie.a cookie.n cookie.c, .slice proof.a proof.n proof.c, .int .i64 epoch, .int .i64 seq, .slice body.a body.n body.c, .slice tag.a tag.n tag.c]) := by rw [← hx0]; exact Blk.new w _ _
  clear hx0
  go_enter Tryz.func42, Tryz.ntmps42
  go_wp2_with fail
  rw [HW0.out]
  refine (sealedOf 4 id cn sn tick cookie proof epoch seq body tag x0).mono ?_
  rintro e x1 ⟨rfl, b1⟩
  have B1 : Hid (Below w.heap.size w x1) := B0.out.trans (b1.mono B0.out.size)
  clear b1
  go_wp2
  go_ret
  exact ⟨by simp, B1.out⟩

set_option maxRecDepth 100000 in
set_option maxHeartbeats 1600000 in
theorem wordOf5 (id : Int) (cn sn : Sl) (tick : Int) (cookie proof : Sl) (epoch seq : Int) (body tag : Sl) (w : World) :
    Calls Tryz.prog 42 #[.agg #[.int .i64 5, .int .i64 id, .slice cn.a cn.n cn.c, .slice sn.a sn.n sn.c, .int .i64 tick, .slice cookie.a cookie.n cookie.c, .slice proof.a proof.n proof.c, .int .i64 epoch, .int .i64 seq, .slice body.a body.n body.c, .slice tag.a tag.n tag.c]] w fun e w' => e = .returned (.iface 83 (.agg #[.slice sn.a sn.n sn.c, .int .i64 epoch, .int .i64 seq, .slice tag.a tag.n tag.c, .slice body.a body.n body.c])) ∧ Below w.heap.size w w' := by
  obtain ⟨x0, hx0⟩ : ∃ x0, w.alloc (.cells #[.int .i64 5, .int .i64 id, .slice cn.a cn.n cn.c, .slice sn.a sn.n sn.c, .int .i64 tick, .slice cookie.a cookie.n cookie.c, .slice proof.a proof.n proof.c, .int .i64 epoch, .int .i64 seq, .slice body.a body.n body.c, .slice tag.a tag.n tag.c] 25) = x0 := ⟨_, rfl⟩
  have HW0 : Hid (w.alloc (.cells #[.int .i64 5, .int .i64 id, .slice cn.a cn.n cn.c, .slice sn.a sn.n sn.c, .int .i64 tick, .slice cookie.a cookie.n cookie.c, .slice proof.a proof.n proof.c, .int .i64 epoch, .int .i64 seq, .slice body.a body.n body.c, .slice tag.a tag.n tag.c] 25) = x0) := hx0
  have B0 : Hid (Below w.heap.size w x0) := by rw [← hx0]; exact (Below.refl _ _).alloc (Nat.le_refl _) _
  have K0 : Hid (Blk x0 w.heap.size 25 [.int .i64 5, .int .i64 id, .slice cn.a cn.n cn.c, .slice sn.a sn.n sn.c, .int .i64 tick, .slice cookie.a cookie.n cookie.c, .slice proof.a proof.n proof.c, .int .i64 epoch, .int .i64 seq, .slice body.a body.n body.c, .slice tag.a tag.n tag.c]) := by rw [← hx0]; exact Blk.new w _ _
  clear hx0
  go_enter Tryz.func42, Tryz.ntmps42
  go_wp2_with fail
  rw [HW0.out]
  refine (sealedOf 5 id cn sn tick cookie proof epoch seq body tag x0).mono ?_
  rintro e x1 ⟨rfl, b1⟩
  have B1 : Hid (Below w.heap.size w x1) := B0.out.trans (b1.mono B0.out.size)
  clear b1
  go_wp2
  go_ret
  exact ⟨by simp, B1.out⟩

set_option maxRecDepth 100000 in
set_option maxHeartbeats 1600000 in
theorem wordOf6 (id : Int) (cn sn : Sl) (tick : Int) (cookie proof : Sl) (epoch seq : Int) (body tag : Sl) (w : World) :
    Calls Tryz.prog 42 #[.agg #[.int .i64 6, .int .i64 id, .slice cn.a cn.n cn.c, .slice sn.a sn.n sn.c, .int .i64 tick, .slice cookie.a cookie.n cookie.c, .slice proof.a proof.n proof.c, .int .i64 epoch, .int .i64 seq, .slice body.a body.n body.c, .slice tag.a tag.n tag.c]] w fun e w' => e = .returned (.iface 84 (.agg #[.slice sn.a sn.n sn.c, .int .i64 epoch, .int .i64 seq, .slice tag.a tag.n tag.c, .slice body.a body.n body.c])) ∧ Below w.heap.size w w' := by
  obtain ⟨x0, hx0⟩ : ∃ x0, w.alloc (.cells #[.int .i64 6, .int .i64 id, .slice cn.a cn.n cn.c, .slice sn.a sn.n sn.c, .int .i64 tick, .slice cookie.a cookie.n cookie.c, .slice proof.a proof.n proof.c, .int .i64 epoch, .int .i64 seq, .slice body.a body.n body.c, .slice tag.a tag.n tag.c] 25) = x0 := ⟨_, rfl⟩
  have HW0 : Hid (w.alloc (.cells #[.int .i64 6, .int .i64 id, .slice cn.a cn.n cn.c, .slice sn.a sn.n sn.c, .int .i64 tick, .slice cookie.a cookie.n cookie.c, .slice proof.a proof.n proof.c, .int .i64 epoch, .int .i64 seq, .slice body.a body.n body.c, .slice tag.a tag.n tag.c] 25) = x0) := hx0
  have B0 : Hid (Below w.heap.size w x0) := by rw [← hx0]; exact (Below.refl _ _).alloc (Nat.le_refl _) _
  have K0 : Hid (Blk x0 w.heap.size 25 [.int .i64 6, .int .i64 id, .slice cn.a cn.n cn.c, .slice sn.a sn.n sn.c, .int .i64 tick, .slice cookie.a cookie.n cookie.c, .slice proof.a proof.n proof.c, .int .i64 epoch, .int .i64 seq, .slice body.a body.n body.c, .slice tag.a tag.n tag.c]) := by rw [← hx0]; exact Blk.new w _ _
  clear hx0
  go_enter Tryz.func42, Tryz.ntmps42
  go_wp2_with fail
  rw [HW0.out]
  refine (sealedOf 6 id cn sn tick cookie proof epoch seq body tag x0).mono ?_
  rintro e x1 ⟨rfl, b1⟩
  have B1 : Hid (Below w.heap.size w x1) := B0.out.trans (b1.mono B0.out.size)
  clear b1
  go_wp2
  go_ret
  exact ⟨by simp, B1.out⟩

set_option maxRecDepth 100000 in
set_option maxHeartbeats 1600000 in
theorem wordOf7 (id : Int) (cn sn : Sl) (tick : Int) (cookie proof : Sl) (epoch seq : Int) (body tag : Sl) (w : World) :
    Calls Tryz.prog 42 #[.agg #[.int .i64 7, .int .i64 id, .slice cn.a cn.n cn.c, .slice sn.a sn.n sn.c, .int .i64 tick, .slice cookie.a cookie.n cookie.c, .slice proof.a proof.n proof.c, .int .i64 epoch, .int .i64 seq, .slice body.a body.n body.c, .slice tag.a tag.n tag.c]] w fun e w' => e = .returned (.iface 85 (.agg #[.slice sn.a sn.n sn.c, .int .i64 epoch, .int .i64 seq, .slice tag.a tag.n tag.c, .slice body.a body.n body.c])) ∧ Below w.heap.size w w' := by
  obtain ⟨x0, hx0⟩ : ∃ x0, w.alloc (.cells #[.int .i64 7, .int .i64 id, .slice cn.a cn.n cn.c, .slice sn.a sn.n sn.c, .int .i64 tick, .slice cookie.a cookie.n cookie.c, .slice proof.a proof.n proof.c, .int .i64 epoch, .int .i64 seq, .slice body.a body.n body.c, .slice tag.a tag.n tag.c] 25) = x0 := ⟨_, rfl⟩
  have HW0 : Hid (w.alloc (.cells #[.int .i64 7, .int .i64 id, .slice cn.a cn.n cn.c, .slice sn.a sn.n sn.c, .int .i64 tick, .slice cookie.a cookie.n cookie.c, .slice proof.a proof.n proof.c, .int .i64 epoch, .int .i64 seq, .slice body.a body.n body.c, .slice tag.a tag.n tag.c] 25) = x0) := hx0
  have B0 : Hid (Below w.heap.size w x0) := by rw [← hx0]; exact (Below.refl _ _).alloc (Nat.le_refl _) _
  have K0 : Hid (Blk x0 w.heap.size 25 [.int .i64 7, .int .i64 id, .slice cn.a cn.n cn.c, .slice sn.a sn.n sn.c, .int .i64 tick, .slice cookie.a cookie.n cookie.c, .slice proof.a proof.n proof.c, .int .i64 epoch, .int .i64 seq, .slice body.a body.n body.c, .slice tag.a tag.n tag.c]) := by rw [← hx0]; exact Blk.new w _ _
  clear hx0
  go_enter Tryz.func42, Tryz.ntmps42
  go_wp2_with fail
  rw [HW0.out]
  refine (sealedOf 7 id cn sn tick cookie proof epoch seq body tag x0).mono ?_
  rintro e x1 ⟨rfl, b1⟩
  have B1 : Hid (Below w.heap.size w x1) := B0.out.trans (b1.mono B0.out.size)
  clear b1
  go_wp2
  go_ret
  exact ⟨by simp, B1.out⟩

set_option maxRecDepth 100000 in
set_option maxHeartbeats 1600000 in
theorem wordOf8 (id : Int) (cn sn : Sl) (tick : Int) (cookie proof : Sl) (epoch seq : Int) (body tag : Sl) (w : World) :
    Calls Tryz.prog 42 #[.agg #[.int .i64 8, .int .i64 id, .slice cn.a cn.n cn.c, .slice sn.a sn.n sn.c, .int .i64 tick, .slice cookie.a cookie.n cookie.c, .slice proof.a proof.n proof.c, .int .i64 epoch, .int .i64 seq, .slice body.a body.n body.c, .slice tag.a tag.n tag.c]] w fun e w' => e = .returned (.iface 86 (.agg #[.slice sn.a sn.n sn.c, .int .i64 epoch, .int .i64 seq, .slice tag.a tag.n tag.c, .slice body.a body.n body.c])) ∧ Below w.heap.size w w' := by
  obtain ⟨x0, hx0⟩ : ∃ x0, w.alloc (.cells #[.int .i64 8, .int .i64 id, .slice cn.a cn.n cn.c, .slice sn.a sn.n sn.c, .int .i64 tick, .slice cookie.a cookie.n cookie.c, .slice proof.a proof.n proof.c, .int .i64 epoch, .int .i64 seq, .slice body.a body.n body.c, .slice tag.a tag.n tag.c] 25) = x0 := ⟨_, rfl⟩
  have HW0 : Hid (w.alloc (.cells #[.int .i64 8, .int .i64 id, .slice cn.a cn.n cn.c, .slice sn.a sn.n sn.c, .int .i64 tick, .slice cookie.a cookie.n cookie.c, .slice proof.a proof.n proof.c, .int .i64 epoch, .int .i64 seq, .slice body.a body.n body.c, .slice tag.a tag.n tag.c] 25) = x0) := hx0
  have B0 : Hid (Below w.heap.size w x0) := by rw [← hx0]; exact (Below.refl _ _).alloc (Nat.le_refl _) _
  have K0 : Hid (Blk x0 w.heap.size 25 [.int .i64 8, .int .i64 id, .slice cn.a cn.n cn.c, .slice sn.a sn.n sn.c, .int .i64 tick, .slice cookie.a cookie.n cookie.c, .slice proof.a proof.n proof.c, .int .i64 epoch, .int .i64 seq, .slice body.a body.n body.c, .slice tag.a tag.n tag.c]) := by rw [← hx0]; exact Blk.new w _ _
  clear hx0
  go_enter Tryz.func42, Tryz.ntmps42
  go_wp2_with fail
  rw [HW0.out]
  refine (sealedOf 8 id cn sn tick cookie proof epoch seq body tag x0).mono ?_
  rintro e x1 ⟨rfl, b1⟩
  have B1 : Hid (Below w.heap.size w x1) := B0.out.trans (b1.mono B0.out.size)
  clear b1
  go_wp2
  go_ret
  exact ⟨by simp, B1.out⟩

set_option maxRecDepth 100000 in
set_option maxHeartbeats 1600000 in
theorem wordOf0 (kind id : Int) (cn sn : Sl) (tick : Int) (cookie proof : Sl) (epoch seq : Int) (body tag : Sl) (h1 : (kind == 1) = false) (h2 : (kind == 2) = false) (h3 : (kind == 3) = false) (h4 : (kind == 4) = false) (h5 : (kind == 5) = false) (h6 : (kind == 6) = false) (h7 : (kind == 7) = false) (h8 : (kind == 8) = false) (w : World) :
    Calls Tryz.prog 42 #[.agg #[.int .i64 kind, .int .i64 id, .slice cn.a cn.n cn.c, .slice sn.a sn.n sn.c, .int .i64 tick, .slice cookie.a cookie.n cookie.c, .slice proof.a proof.n proof.c, .int .i64 epoch, .int .i64 seq, .slice body.a body.n body.c, .slice tag.a tag.n tag.c]] w fun e w' => e = .returned (.nilIface) ∧ Below w.heap.size w w' := by
  obtain ⟨x0, hx0⟩ : ∃ x0, w.alloc (.cells #[.int .i64 kind, .int .i64 id, .slice cn.a cn.n cn.c, .slice sn.a sn.n sn.c, .int .i64 tick, .slice cookie.a cookie.n cookie.c, .slice proof.a proof.n proof.c, .int .i64 epoch, .int .i64 seq, .slice body.a body.n body.c, .slice tag.a tag.n tag.c] 25) = x0 := ⟨_, rfl⟩
  have HW0 : Hid (w.alloc (.cells #[.int .i64 kind, .int .i64 id, .slice cn.a cn.n cn.c, .slice sn.a sn.n sn.c, .int .i64 tick, .slice cookie.a cookie.n cookie.c, .slice proof.a proof.n proof.c, .int .i64 epoch, .int .i64 seq, .slice body.a body.n body.c, .slice tag.a tag.n tag.c] 25) = x0) := hx0
  have B0 : Hid (Below w.heap.size w x0) := by rw [← hx0]; exact (Below.refl _ _).alloc (Nat.le_refl _) _
  have K0 : Hid (Blk x0 w.heap.size 25 [.int .i64 kind, .int .i64 id, .slice cn.a cn.n cn.c, .slice sn.a sn.n sn.c, .int .i64 tick, .slice cookie.a cookie.n cookie.c, .slice proof.a proof.n proof.c, .int .i64 epoch, .int .i64 seq, .slice body.a body.n body.c, .slice tag.a tag.n tag.c]) := by rw [← hx0]; exact Blk.new w _ _
  clear hx0
  go_enter Tryz.func42, Tryz.ntmps42
  go_wp2
  rw [HW0.out]
  go_ret
  exact ⟨by simp, B0.out⟩

end Go.Proofs.YtpenhliaelhnoaaGreatDoor.FrW3
